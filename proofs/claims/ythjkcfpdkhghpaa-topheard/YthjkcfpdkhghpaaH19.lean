/- Eve -/
import Derived.Test.YthjkcfpdkhghpaaH18
import Derived.Test.YthjkcfpdkhghpaaH08
namespace Go.Proofs.Ythjkcfpdkhghpaa
open Go.RowKit
set_option maxRecDepth 20000
set_option linter.unusedSimpArgs false
abbrev EvT := List Int × List Int × Bool
def Ev.tup (e : Ev) : EvT := ([e.da, e.ds, e.kind, e.pa, e.ps, e.char, e.who, e.role], e.past, e.right)
def tupEv (t : EvT) : Ev := ⟨t.1[0]?.getD 0, t.1[1]?.getD 0, t.2.1, t.1[2]?.getD 0, t.1[3]?.getD 0, t.1[4]?.getD 0, t.2.2, t.1[5]?.getD 0, t.1[6]?.getD 0, t.1[7]?.getD 0⟩
theorem tupEv_tup (t : EvT) (h : t.1.length = 8) : (tupEv t).tup = t := by
  obtain ⟨l, p, b⟩ := t
  match l, h with
  | [_, _, _, _, _, _, _, _], _ => rfl
def evEq (e f : Ev) : Bool := decide (e.tup = f.tup)
theorem flatDotE (d : Nat) (a s : Int) (h : okD a s) : Flat Try.prog (d + 1 + 1) 32 (dotC a s) := ⟨_, litsDot d a s h⟩
theorem ev_length (e : Ev) (h : e.past.length = 8) : e.cells.length = 17 := by
  unfold Ev.cells dotC; simp [h]
theorem flatEv (d : Nat) (e : Ev) (h : e.Ok) : Flat Try.prog (d + 1 + 1 + 1) 38 e.cells :=
  flat_struct Try.underlying38 (by kernel_rfl) (by rw [ev_length e h.past]; kernel_rfl) (tl := [(32, 0, 2), (34, 2, 8), (35, 10, 1), (32, 11, 2), (4, 13, 1), (5, 14, 1), (5, 15, 1), (36, 16, 1)]) (by kernel_rfl) fun q hq => by
    obtain ⟨p1, p2, p3, p4, p5, p6, p7, p8⟩ := ev_parts e h.past
    have one : ∀ (j : Nat) (v : Value), e.cells[j]? = some v → (e.cells.drop j).take 1 = [v] := fun j v hv => by
      obtain ⟨hj, rfl⟩ := List.getElem?_eq_some_iff.1 hv
      rw [List.drop_eq_getElem_cons hj]; rfl
    simp only [List.mem_cons, List.not_mem_nil, or_false] at hq
    rcases hq with rfl | rfl | rfl | rfl | rfl | rfl | rfl | rfl
    · show Flat _ _ _ ((e.cells.drop 0).take 2); rw [p1]; exact flatDotE d _ _ h.dot
    · show Flat _ _ _ ((e.cells.drop 2).take 8); rw [p2]; exact flat_row32 Try.underlying34 Try.underlying30 (by kernel_rfl) (by kernel_rfl) h.past h.pastB
    · show Flat _ _ _ ((e.cells.drop 10).take 1); rw [one _ _ p3]; exact flat_u8 Try.underlying35 _ h.kind.1 h.kind.2
    · show Flat _ _ _ ((e.cells.drop 11).take 2); rw [p4]; exact flatDotE d _ _ h.par
    · show Flat _ _ _ ((e.cells.drop 13).take 1); rw [one _ _ p5]; exact flat_bool Try.underlying4 _
    · show Flat _ _ _ ((e.cells.drop 14).take 1); rw [one _ _ p6]; exact flat_u8 Try.underlying5 _ h.char.1 h.char.2
    · show Flat _ _ _ ((e.cells.drop 15).take 1); rw [one _ _ p7]; exact flat_u8 Try.underlying5 _ h.who.1 h.who.2
    · show Flat _ _ _ ((e.cells.drop 16).take 1); rw [one _ _ p8]; exact flat_u8 Try.underlying36 _ h.role.1 h.role.2
theorem ev_inj {e f : Ev} (he : e.past.length = 8) (hf : f.past.length = 8) (h : e.cells = f.cells) : e = f := by
  obtain ⟨a1, a2, a3, a4, a5, a6, a7, a8⟩ := ev_parts e he
  obtain ⟨b1, b2, b3, b4, b5, b6, b7, b8⟩ := ev_parts f hf
  rw [h] at a1 a2 a3 a4 a5 a6 a7 a8
  rw [a1] at b1; rw [a2] at b2; rw [a3] at b3; rw [a4] at b4; rw [a5] at b5; rw [a6] at b6; rw [a7] at b7; rw [a8] at b8
  obtain ⟨da, ds, past, kind, pa, ps, right, char, who, role⟩ := e
  obtain ⟨da', ds', past', kind', pa', ps', right', char', who', role'⟩ := f
  simp only [dotC, List.cons.injEq, Value.int.injEq, true_and, and_true, Option.some.injEq, Value.bool.injEq] at b1 b2 b3 b4 b5 b6 b7 b8
  have b2 := mapI_inj b2
  obtain ⟨rfl, rfl⟩ := b1
  obtain ⟨rfl, rfl⟩ := b4
  subst b2 b3 b5 b6 b7 b8
  rfl
theorem keyEncE : KeyEnc Try.prog 38 (fun t : EvT => .agg (tupEv t).cells.toArray) (fun t => t.1.length = 8 ∧ (tupEv t).Ok) where
  keyed := Go.Maps.Keyed.of_law (deep_law (m := 4) (by omega) (by kernel_rfl) (by kernel_rfl) (by kernel_rfl))
  has := fun k h => by
    obtain ⟨m, hm⟩ := manyTypes
    exact key_of_flat (by kernel_rfl) (by kernel_rfl) (by rw [ev_length _ h.2.past]; kernel_rfl) (by rw [hm]; exact flatEv _ _ h.2)
  inj := fun x y hx hy e => by
    injection e with e
    have := ev_inj hx.2.past hy.2.past (by simpa using e)
    rw [← tupEv_tup x hx.1, this, tupEv_tup y hy.1]
theorem ev_neq (e f : Ev) (he : e.Ok) (hf : f.Ok) (w : World) : (binOp .neq 38 (.agg e.cells.toArray) (.agg f.cells.toArray)).run Try.prog w = .ok (.bool (!evEq e f)) w := keyEncE.neq (m := 4) (by omega) (by kernel_rfl) (by kernel_rfl) e.tup f.tup ⟨rfl, he⟩ ⟨rfl, hf⟩ rfl rfl w
end Go.Proofs.Ythjkcfpdkhghpaa
