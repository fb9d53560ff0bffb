/-
  Signs, sums of places, places held against one another.
-/
import Derived.Test.YtjhldjojkaphkaaByt
import Derived.Test.YtjhldjojkaphkaaWyMath
namespace Go.Proofs.Ytjhldjojkaphkaa
open Go.ChangeShapes Go.WideShapes Go.ChangeAt Go.RowKit
set_option linter.unusedVariables false
set_option linter.unusedSimpArgs false

theorem sgP_any (x : Int) (w : World) : Calls Try.prog 81 #[.int .i64 x] w fun e w' => e = .returned (.int .i64 (sg x)) ∧ w' = w := by
  unfold sg
  by_cases h1 : 0 < x
  · rw [if_pos h1]
    have t1 := decide_eq_true h1
    go_enter Try.func81, Try.ntmps81
    go_wp2_with fail
    go_ret
    exact ⟨rfl, rfl⟩
  · rw [if_neg h1]
    have t1 := decide_eq_false h1
    by_cases h2 : x < 0
    · rw [if_pos h2]
      have t2 := decide_eq_true h2
      go_enter Try.func81, Try.ntmps81
      go_wp2_with fail
      go_ret
      exact ⟨rfl, rfl⟩
    · rw [if_neg h2]
      have t2 := decide_eq_false h2
      go_enter Try.func81, Try.ntmps81
      go_wp2_with fail
      go_ret
      exact ⟨rfl, rfl⟩
/-- a place as a value -/
def plW (x y z : Int) : Value := .agg #[.int .i64 x, .int .i64 y, .int .i64 z]
theorem plW_any (x y z a b c : Int) (w : World) (h : (-1000 ≤ x + a ∧ x + a ≤ 1000) ∧ (-1000 ≤ y + b ∧ y + b ≤ 1000) ∧ (-1000 ≤ z + c ∧ z + c ≤ 1000)) : Calls Try.prog 82 #[plW x y z, plW a b c] w fun e w' => e = .returned (plW (x + a) (y + b) (z + c)) ∧ Below w.heap.size w w' := by
  obtain ⟨⟨h1, h2⟩, ⟨h3, h4⟩, h5, h6⟩ := h
  have w1 : IntKind.i64.wrap (x + a) = x + a := Go.IntWalk.i64_in _ ⟨by omega, by omega⟩
  have w2 : IntKind.i64.wrap (y + b) = y + b := Go.IntWalk.i64_in _ ⟨by omega, by omega⟩
  have w3 : IntKind.i64.wrap (z + c) = z + c := Go.IntWalk.i64_in _ ⟨by omega, by omega⟩
  have HB := hide (ba (ba (ba (Below.refl w.heap.size w) (.cells #[.int .i64 x, .int .i64 y, .int .i64 z] 73)) (.cells #[.int .i64 a, .int .i64 b, .int .i64 c] 73)) (.cells #[.int .i64 (x + a), .int .i64 (y + b), .int .i64 (z + c)] 73))
  unfold plW
  go_enter Try.func82, Try.ntmps82
  go_wp2_with fail
  refine bodyPost_ret (v := .agg #[.int .i64 (x + a), .int .i64 (y + b), .int .i64 (z + c)]) (by simp [results, Try.results82, go_sem]) rfl ⟨rfl, ?_⟩
  exact unhide HB
theorem eql68 (a1 a2 a3 b1 b2 b3 : Int) (W : World) : (binOp .eql 73 (.agg #[.int .i64 a1, .int .i64 a2, .int .i64 a3]) (.agg #[.int .i64 b1, .int .i64 b2, .int .i64 b3])).run Try.prog W = .ok (.bool (decide (a1 = b1 ∧ a2 = b2 ∧ a3 = b3))) W := by
  cases h1 : a1 == b1 <;> cases h2 : a2 == b2 <;> cases h3 : a3 == b3
  all_goals
    have k1 := h1
    have k2 := h2
    have k3 := h3
    simp only [beq_eq_false_iff_ne, beq_iff_eq] at k1 k2 k3
    have e : decide (a1 = b1 ∧ a2 = b2 ∧ a3 = b3) = (a1 == b1 && a2 == b2 && a3 == b3) := by simp [k1, k2, k3]
    rw [e, h1, h2, h3]
    clear e k1 k2 k3
    go_simp
theorem neq68 (a1 a2 a3 b1 b2 b3 : Int) (W : World) : (binOp .neq 73 (.agg #[.int .i64 a1, .int .i64 a2, .int .i64 a3]) (.agg #[.int .i64 b1, .int .i64 b2, .int .i64 b3])).run Try.prog W = .ok (.bool (!decide (a1 = b1 ∧ a2 = b2 ∧ a3 = b3))) W := by
  cases h1 : a1 == b1 <;> cases h2 : a2 == b2 <;> cases h3 : a3 == b3
  all_goals
    have k1 := h1
    have k2 := h2
    have k3 := h3
    simp only [beq_eq_false_iff_ne, beq_iff_eq] at k1 k2 k3
    have e : decide (a1 = b1 ∧ a2 = b2 ∧ a3 = b3) = (a1 == b1 && a2 == b2 && a3 == b3) := by simp [k1, k2, k3]
    rw [e, h1, h2, h3]
    clear e k1 k2 k3
    go_simp
end Go.Proofs.Ytjhldjojkaphkaa
