/- a triangle's corner, by its number -/
import Derived.Test.YtgjegildeejghaaTb
namespace Go.Proofs.Ytgjegildeejghaa
open Go.ChangeShapes Go.WideShapes Go.ChangeAt Go.RowKit Go.Joins
set_option linter.unusedVariables false
set_option linter.unusedSimpArgs false
set_option maxRecDepth 4000
theorem index3_0 (a1 a2 b1 b2 c1 c2 : Int) (W : World) : (Instr.index 67 (.agg #[.int .i64 a1, .int .i64 a2, .int .i64 b1, .int .i64 b2, .int .i64 c1, .int .i64 c2]) (.int .i64 0)).run Try.prog W = .ok (.agg #[.int .i64 a1, .int .i64 a2]) W := by
  first | rfl | kernel_rfl | simp [Instr.index, go_sem]
theorem index3_1 (a1 a2 b1 b2 c1 c2 : Int) (W : World) : (Instr.index 67 (.agg #[.int .i64 a1, .int .i64 a2, .int .i64 b1, .int .i64 b2, .int .i64 c1, .int .i64 c2]) (.int .i64 1)).run Try.prog W = .ok (.agg #[.int .i64 b1, .int .i64 b2]) W := by
  first | rfl | kernel_rfl | simp [Instr.index, go_sem]
theorem index3_2 (a1 a2 b1 b2 c1 c2 : Int) (W : World) : (Instr.index 67 (.agg #[.int .i64 a1, .int .i64 a2, .int .i64 b1, .int .i64 b2, .int .i64 c1, .int .i64 c2]) (.int .i64 2)).run Try.prog W = .ok (.agg #[.int .i64 c1, .int .i64 c2]) W := by
  first | rfl | kernel_rfl | simp [Instr.index, go_sem]
end Go.Proofs.Ytgjegildeejghaa
