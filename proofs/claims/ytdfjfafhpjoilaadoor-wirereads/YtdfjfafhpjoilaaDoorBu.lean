/- Structs that are built of parts, where a part is a row of letters. -/
import Derived.Laws.Tables
import Derived.Test.YtdfjfafhpjoilaaDoorBg
import Derived.Test.YtdfjfafhpjoilaaDoorRh
import Derived.Test.YtdfjfafhpjoilaaDoorRfr
namespace Go.Proofs.YtdfjfafhpjoilaaDoor
open Go.RowKit
set_option maxRecDepth 20000

theorem head_places : ((Tryd.prog.fieldsOf 35).toList.mapM (fun f => (Tryd.prog.info? f.type).map fun i => (f.offset, i.size))) = some [(0, 1), (1, 32)] := by kernel_rfl
theorem head_zero : (Tryd.prog.info? 35).map (·.zero) = some (some (.agg (hdC (0, keyZ)).toArray)) := by kernel_rfl
theorem head_built (V : Int) (S : List Int) (hS : S.length = 32) (w : World) : (Instr.build 35 #[(0, .int .u32 V), (1, .agg (byC S).toArray)]).run Tryd.prog w = .ok (.agg (hdC (V, S)).toArray) w := by
  refine run_build w _ _ _ ?_
  rw [built_of head_zero Tryd.underlying35 (by kernel_rfl) (places := [(0, 1), (1, 32)])]
  rw [fill_cons _ _ [.int .u32 V] 0 0 1 _ _ rfl rfl rfl (by decide), show (hdC (0, keyZ)).take 0 ++ [.int .u32 V] ++ (hdC (0, keyZ)).drop (0 + 1) = hdC (V, keyZ) from rfl]
  rw [fill_cons _ _ (byC S) 1 1 32 _ _ rfl rfl (by rw [byC_length, hS]) (by rw [hdC_len _ rfl]; decide), Instr.fill]
  show some (([Value.int .u32 V] : List Value) ++ byC S ++ []).toArray = _
  simp [hdC]
theorem wrap_zero : (Tryd.prog.info? 52).map (·.zero) = some (some (.agg wpZ.cells.toArray)) := by kernel_rfl
theorem wrap_built (a : Int) (da ds : Int) (w : World) : (Instr.build 52 #[(0, .int .u8 a), (1, .agg (dotC da ds).toArray)]).run Tryd.prog w = .ok (.agg (⟨a, da, ds, dataZ⟩ : Wp).cells.toArray) w := by
  refine run_build w _ _ _ ?_
  rw [built_of wrap_zero Tryd.underlying52 (by kernel_rfl) (places := [(0, 1), (1, 2), (3, 48)])]
  rw [fill_cons _ _ [.int .u8 a] 0 0 1 _ _ rfl rfl rfl (by decide), show wpZ.cells.take 0 ++ [.int .u8 a] ++ wpZ.cells.drop (0 + 1) = (⟨a, 0, 0, dataZ⟩ : Wp).cells from rfl]
  rw [fill_cons _ _ (dotC da ds) 1 1 2 _ _ rfl rfl rfl (Nat.le_of_ble_eq_true rfl), Instr.fill]
  rfl
theorem frame_zero : (Tryd.prog.info? 30).map (·.zero) = some (some (.agg frZ.cells.toArray)) := by kernel_rfl
theorem frame_built (a n da ds : Int) (p m : List Int) (hp : p.length = 32) (hm : m.length = 32) (w : World) : (Instr.build 30 #[(0, .int .u8 a), (1, .int .u32 n), (2, .agg (dotC da ds).toArray), (3, .agg (byC p).toArray), (6, .agg (byC m).toArray)]).run Tryd.prog w = .ok (.agg (⟨a, n, da, ds, p, .slice none 0 0, .slice none 0 0, m⟩ : Fr).cells.toArray) w := by
  refine run_build w _ _ _ ?_
  rw [built_of frame_zero Tryd.underlying30 (by kernel_rfl) (places := [(0, 1), (1, 1), (2, 2), (4, 32), (36, 1), (37, 1), (38, 32)])]
  rw [fill_cons _ _ [.int .u8 a] 0 0 1 _ _ rfl rfl rfl (by decide), show frZ.cells.take 0 ++ [.int .u8 a] ++ frZ.cells.drop (0 + 1) = (⟨a, 0, 0, 0, keyZ, .slice none 0 0, .slice none 0 0, keyZ⟩ : Fr).cells from rfl]
  rw [fill_cons _ _ [.int .u32 n] 1 1 1 _ _ rfl rfl rfl (Nat.le_of_ble_eq_true rfl), show (⟨a, 0, 0, 0, keyZ, .slice none 0 0, .slice none 0 0, keyZ⟩ : Fr).cells.take 1 ++ [.int .u32 n] ++ (⟨a, 0, 0, 0, keyZ, .slice none 0 0, .slice none 0 0, keyZ⟩ : Fr).cells.drop (1 + 1) = (⟨a, n, 0, 0, keyZ, .slice none 0 0, .slice none 0 0, keyZ⟩ : Fr).cells from rfl]
  rw [fill_cons _ _ (dotC da ds) 2 2 2 _ _ rfl rfl rfl (Nat.le_of_ble_eq_true rfl), show (⟨a, n, 0, 0, keyZ, .slice none 0 0, .slice none 0 0, keyZ⟩ : Fr).cells.take 2 ++ dotC da ds ++ (⟨a, n, 0, 0, keyZ, .slice none 0 0, .slice none 0 0, keyZ⟩ : Fr).cells.drop (2 + 2) = (⟨a, n, da, ds, keyZ, .slice none 0 0, .slice none 0 0, keyZ⟩ : Fr).cells from rfl]
  rw [fill_cons _ _ (byC p) 3 4 32 _ _ rfl rfl (by rw [byC_length, hp]) (Nat.le_of_ble_eq_true rfl)]
  have e3 : (⟨a, n, da, ds, keyZ, .slice none 0 0, .slice none 0 0, keyZ⟩ : Fr).cells.take 4 ++ byC p ++ (⟨a, n, da, ds, keyZ, .slice none 0 0, .slice none 0 0, keyZ⟩ : Fr).cells.drop (4 + 32) = (⟨a, n, da, ds, p, .slice none 0 0, .slice none 0 0, keyZ⟩ : Fr).cells := by
    show (([Value.int .u8 a, Value.int .u32 n] : List Value) ++ dotC da ds) ++ byC p ++ ([.slice none 0 0, .slice none 0 0] ++ byC keyZ) = _
    simp [Fr.cells, byC]
  rw [e3]
  have hl : (⟨a, n, da, ds, p, .slice none 0 0, .slice none 0 0, keyZ⟩ : Fr).cells.length = 70 := fr_len _ hp rfl
  rw [fill_cons _ _ (byC m) 6 38 32 _ _ rfl rfl (by rw [byC_length, hm]) (by rw [hl]; decide), Instr.fill, List.drop_of_length_le (by rw [hl]; decide)]
  have e4 : (⟨a, n, da, ds, p, .slice none 0 0, .slice none 0 0, keyZ⟩ : Fr).cells.take 38 = [.int .u8 a, .int .u32 n] ++ dotC da ds ++ byC p ++ [.slice none 0 0, .slice none 0 0] := by
    show ((([Value.int .u8 a, Value.int .u32 n] : List Value) ++ dotC da ds ++ p.map (Value.int .u8) ++ [Value.slice none 0 0, Value.slice none 0 0]) ++ keyZ.map (Value.int .u8)).take 38 = _
    rw [List.take_left' (by simp [dotC, hp])]
    rfl
  rw [e4]
  simp [Fr.cells, byC]
end Go.Proofs.YtdfjfafhpjoilaaDoor
