/-
  The rule of one number.
-/
import Derived.Test.YtibcgimggcdllaaFiRu
namespace Go.Proofs.Ytibcgimggcdllaa
open Go.ChangeShapes Go.WideShapes Go.ChangeAt Go.RowKit
set_option linter.unusedVariables false
set_option linter.unusedSimpArgs false

def raI (i : Nat) : Int := if i < 3 then 0 else -24
def rbI (i : Nat) : Int := if i = 0 then 3 else if i = 1 then 6 else if i = 2 then 8 else 24
theorem rul_ix0 (W : World) : (Instr.index 80 (.agg rulL.toArray) (.int .i64 0)).run Try.prog W = .ok (.agg #[.int .i64 (raI 0), .int .i64 (rbI 0), .int .i64 (shf 0)]) W := by kernel_rfl
theorem rul_ix1 (W : World) : (Instr.index 80 (.agg rulL.toArray) (.int .i64 1)).run Try.prog W = .ok (.agg #[.int .i64 (raI 1), .int .i64 (rbI 1), .int .i64 (shf 1)]) W := by kernel_rfl
theorem rul_ix2 (W : World) : (Instr.index 80 (.agg rulL.toArray) (.int .i64 2)).run Try.prog W = .ok (.agg #[.int .i64 (raI 2), .int .i64 (rbI 2), .int .i64 (shf 2)]) W := by kernel_rfl
theorem rul_ix3 (W : World) : (Instr.index 80 (.agg rulL.toArray) (.int .i64 3)).run Try.prog W = .ok (.agg #[.int .i64 (raI 3), .int .i64 (rbI 3), .int .i64 (shf 3)]) W := by kernel_rfl
theorem rul_ix4 (W : World) : (Instr.index 80 (.agg rulL.toArray) (.int .i64 4)).run Try.prog W = .ok (.agg #[.int .i64 (raI 4), .int .i64 (rbI 4), .int .i64 (shf 4)]) W := by kernel_rfl
theorem rul_ix5 (W : World) : (Instr.index 80 (.agg rulL.toArray) (.int .i64 5)).run Try.prog W = .ok (.agg #[.int .i64 (raI 5), .int .i64 (rbI 5), .int .i64 (shf 5)]) W := by kernel_rfl
theorem rul_ix6 (W : World) : (Instr.index 80 (.agg rulL.toArray) (.int .i64 6)).run Try.prog W = .ok (.agg #[.int .i64 (raI 6), .int .i64 (rbI 6), .int .i64 (shf 6)]) W := by kernel_rfl
theorem rul_ix7 (W : World) : (Instr.index 80 (.agg rulL.toArray) (.int .i64 7)).run Try.prog W = .ok (.agg #[.int .i64 (raI 7), .int .i64 (rbI 7), .int .i64 (shf 7)]) W := by kernel_rfl
theorem rul_ix8 (W : World) : (Instr.index 80 (.agg rulL.toArray) (.int .i64 8)).run Try.prog W = .ok (.agg #[.int .i64 (raI 8), .int .i64 (rbI 8), .int .i64 (shf 8)]) W := by kernel_rfl
theorem rul_ix9 (W : World) : (Instr.index 80 (.agg rulL.toArray) (.int .i64 9)).run Try.prog W = .ok (.agg #[.int .i64 (raI 9), .int .i64 (rbI 9), .int .i64 (shf 9)]) W := by kernel_rfl
theorem rul_ix10 (W : World) : (Instr.index 80 (.agg rulL.toArray) (.int .i64 10)).run Try.prog W = .ok (.agg #[.int .i64 (raI 10), .int .i64 (rbI 10), .int .i64 (shf 10)]) W := by kernel_rfl
theorem rul_ix11 (W : World) : (Instr.index 80 (.agg rulL.toArray) (.int .i64 11)).run Try.prog W = .ok (.agg #[.int .i64 (raI 11), .int .i64 (rbI 11), .int .i64 (shf 11)]) W := by kernel_rfl
theorem rul_ix (i : Nat) (h12 : i < 12) (W : World) : (Instr.index 80 (.agg rulL.toArray) (.int .i64 (i : Int))).run Try.prog W = .ok (.agg #[.int .i64 (raI i), .int .i64 (rbI i), .int .i64 (shf i)]) W := by
  have hi : i = 0 ∨ i = 1 ∨ i = 2 ∨ i = 3 ∨ i = 4 ∨ i = 5 ∨ i = 6 ∨ i = 7 ∨ i = 8 ∨ i = 9 ∨ i = 10 ∨ i = 11 := by omega
  rcases hi with rfl | rfl | rfl | rfl | rfl | rfl | rfl | rfl | rfl | rfl | rfl | rfl
  · exact rul_ix0 W
  · exact rul_ix1 W
  · exact rul_ix2 W
  · exact rul_ix3 W
  · exact rul_ix4 W
  · exact rul_ix5 W
  · exact rul_ix6 W
  · exact rul_ix7 W
  · exact rul_ix8 W
  · exact rul_ix9 W
  · exact rul_ix10 W
  · exact rul_ix11 W
end Go.Proofs.Ytibcgimggcdllaa
