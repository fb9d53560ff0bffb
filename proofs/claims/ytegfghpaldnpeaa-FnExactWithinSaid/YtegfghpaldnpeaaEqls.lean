/-
  Points and sides held against one another.
-/
import Derived.Test.YtegfghpaldnpeaaSides
namespace Go.Proofs.Ytegfghpaldnpeaa
open Go.ChangeShapes Go.WideShapes Go.ChangeAt Go.RowKit
set_option linter.unusedVariables false
set_option linter.unusedSimpArgs false

theorem eql26 (a1 a2 b1 b2 : Int) (W : World) : (binOp .eql 26 (.agg #[.int .i64 a1, .int .i64 a2]) (.agg #[.int .i64 b1, .int .i64 b2])).run Try.prog W = .ok (.bool (decide ((a1, a2) = (b1, b2)))) W := by
  cases h1 : a1 == b1 <;> cases h2 : a2 == b2
  all_goals
    have k1 := h1
    have k2 := h2
    simp only [beq_eq_false_iff_ne, beq_iff_eq] at k1 k2
    have e : decide ((a1, a2) = (b1, b2)) = (a1 == b1 && a2 == b2) := by simp [k1, k2]
    rw [e, h1, h2]
    clear e k1 k2
    go_simp
theorem eqlIn26 (a1 a2 b1 b2 : Int) (W : World) : (Op.equalIn 9999 26 (.agg #[.int .i64 a1, .int .i64 a2]) (.agg #[.int .i64 b1, .int .i64 b2])).run Try.prog W = .ok (a1 == b1 && a2 == b2) W := by
  cases h1 : a1 == b1 <;> cases h2 : a2 == b2
  all_goals go_simp
theorem part26 (x0 x1 x2 x3 : Int) (W : World) : (part 26 #[.int .i64 x0, .int .i64 x1, .int .i64 x2, .int .i64 x3] 0).run Try.prog W = .ok (.agg #[.int .i64 x0, .int .i64 x1]) W ∧ (part 26 #[.int .i64 x0, .int .i64 x1, .int .i64 x2, .int .i64 x3] 2).run Try.prog W = .ok (.agg #[.int .i64 x2, .int .i64 x3]) W := by
  constructor <;> go_simp
theorem cells26 : Try.prog.cellsOf 26 = 2 := by kernel_rfl
theorem eql54 (a1 a2 a3 a4 b1 b2 b3 b4 : Int) (W : World) : (binOp .eql 54 (.agg #[.int .i64 a1, .int .i64 a2, .int .i64 a3, .int .i64 a4]) (.agg #[.int .i64 b1, .int .i64 b2, .int .i64 b3, .int .i64 b4])).run Try.prog W = .ok (.bool (decide (((a1, a2), a3, a4) = ((b1, b2), b3, b4)))) W := by
  have e : decide (((a1, a2), a3, a4) = ((b1, b2), b3, b4)) = ((a1 == b1 && a2 == b2) && (a3 == b3 && a4 == b4)) := by
    rw [Bool.eq_iff_iff]
    simp only [decide_eq_true_eq, Prod.mk.injEq, Bool.and_eq_true, beq_iff_eq]
  obtain ⟨i, hi⟩ : ∃ i, Try.prog.info? 26 = some i := by
    cases h : Try.prog.info? 26 with
    | some i => exact ⟨i, rfl⟩
    | none => exact absurd (show (Try.prog.info? 26).isSome = true by kernel_rfl) (by rw [h]; simp)
  have h1 := run_equalIn_array (P := Try.prog) W 9999 #[.int .i64 a1, .int .i64 a2, .int .i64 a3, .int .i64 a4] #[.int .i64 b1, .int .i64 b2, .int .i64 b3, .int .i64 b4] Try.underlying54 hi
  rw [cells26] at h1
  have h2 : (Op.eqItems 9999 26 2 #[.int .i64 a1, .int .i64 a2, .int .i64 a3, .int .i64 a4] #[.int .i64 b1, .int .i64 b2, .int .i64 b3, .int .i64 b4] (List.range 2)).run Try.prog W = .ok ((a1 == b1 && a2 == b2) && (a3 == b3 && a4 == b4)) W := by
    show (Op.eqItems 9999 26 2 _ _ [0, 1]).run Try.prog W = _
    simp only [Op.eqItems, Sem.run_bind, Nat.zero_mul, Nat.one_mul, (part26 _ _ _ _ _).1, (part26 _ _ _ _ _).2, Result.andThen_ok, eqlIn26]
    cases (a1 == b1 && a2 == b2)
    · simp
    · simp only [Bool.not_true, Bool.false_eq_true, if_false, Sem.run_bind, (part26 _ _ _ _ _).2, Result.andThen_ok, eqlIn26]
      cases (a3 == b3 && a4 == b4) <;> simp
  rw [h2] at h1
  change (Op.equalIn Op.maxDepth 54 _ _).run Try.prog W = _ at h1
  rw [e]
  simp only [binOp, Op.equal, Sem.run_bind, h1, Result.andThen_ok]
  simp
end Go.Proofs.Ytegfghpaldnpeaa
