/- Arrays of four fractions, and of four errors, are equal to themselves. No conditions. -/
import Derived.ChangeKeysEq
import Derived.Laws.StructEq
import Derived.Test.YtgokpdidhpogdaaGreatGO
namespace Go.Proofs.YtgokpdidhpogdaaGreat
open Go.RowKit Go.Lib Go.ChangeShapes

set_option maxRecDepth 100000 in
theorem eq_ratio (a b : ByteArray) (d : Nat) (w : World) : (Op.equalIn (d + 2) 23 (.agg #[.string a, .string b]) (.agg #[.string a, .string b])).run Tryz.prog w = .ok true w := by
  go_simp
set_option maxRecDepth 100000 in
theorem eq8 (x0 y0 x1 y1 x2 y2 x3 y3 : ByteArray) (w : World) :
    (Op.equalIn 10000 31 (.agg #[.string x0, .string y0, .string x1, .string y1, .string x2, .string y2, .string x3, .string y3]) (.agg #[.string x0, .string y0, .string x1, .string y1, .string x2, .string y2, .string x3, .string y3])).run Tryz.prog w = .ok true w := by
  rw [run_equalIn_array w 9999 _ _ Tryz.underlying31 rfl]
  rw [show Tryz.prog.cellsOf 23 = 2 from by kernel_rfl]
  show (Op.eqItems 9999 23 2 _ _ [0, 1, 2, 3]).run _ _ = _
  simp only [Op.eqItems]
  go_simp
set_option maxRecDepth 100000 in
theorem eq4 (z0 z1 z2 z3 : Int) (w : World) :
    (Op.equalIn 10000 33 (.agg #[.int .i64 z0, .int .i64 z1, .int .i64 z2, .int .i64 z3]) (.agg #[.int .i64 z0, .int .i64 z1, .int .i64 z2, .int .i64 z3])).run Tryz.prog w = .ok true w := by
  rw [run_equalIn_array w 9999 _ _ Tryz.underlying33 rfl]
  rw [show Tryz.prog.cellsOf 32 = 1 from by kernel_rfl]
  show (Op.eqItems 9999 32 1 _ _ [0, 1, 2, 3]).run _ _ = _
  simp only [Op.eqItems]
  go_simp
end Go.Proofs.YtgokpdidhpogdaaGreat
