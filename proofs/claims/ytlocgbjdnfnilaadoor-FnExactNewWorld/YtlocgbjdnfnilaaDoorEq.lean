/-
  When two arrays of four bytes are the same.
-/
import Derived.Test.YtlocgbjdnfnilaaDoorSg
import Derived.ChangeKeysEq
import Derived.Laws.StructEq
namespace Go.Proofs.YtlocgbjdnfnilaaDoor
open Go Go.RowKit

theorem eq4 (W : World) (a0 a1 a2 a3 b0 b1 b2 b3 : Int) : (Op.equalIn 10000 108 (.agg #[.int .u8 a0, .int .u8 a1, .int .u8 a2, .int .u8 a3]) (.agg #[.int .u8 b0, .int .u8 b1, .int .u8 b2, .int .u8 b3])).run Tryd.prog W = .ok (a0 == b0 && (a1 == b1 && (a2 == b2 && a3 == b3))) W := by
  obtain ⟨i0, hi, _⟩ := info_parts infoB
  rw [run_equalIn_array W 9999 _ _ Tryd.underlying108 hi]
  have hc : Tryd.prog.cellsOf 5 = 1 := by kernel_rfl
  have hr : List.range 4 = [0, 1, 2, 3] := rfl
  rw [hc, hr]
  cases h0 : (a0 == b0) <;> cases h1 : (a1 == b1) <;> cases h2 : (a2 == b2) <;> cases h3 : (a3 == b3)
  all_goals simp [Op.eqItems, part, go_sem, h0, h1, h2, h3]
end Go.Proofs.YtlocgbjdnfnilaaDoor
