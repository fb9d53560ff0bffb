/-
  The model's floor.
-/
import Derived.Test.YtjhldjojkaphkaaLow
namespace Go.Proofs.Ytjhldjojkaphkaa
open Go.ChangeShapes Go.WideShapes Go.ChangeAt Go.RowKit
set_option linter.unusedVariables false
set_option linter.unusedSimpArgs false

theorem tlM_any (r : Int) (w : World) : Calls Try.prog 68 #[.int .i64 r] w fun e w' => e = .returned (.bool (decide (0 ≤ r) && decide (r ≤ 3))) ∧ w' = w := by
  by_cases h1 : 0 ≤ r
  · by_cases h2 : r ≤ 3
    · have t1 := decide_eq_true h1
      have t2 := decide_eq_true h2
      go_enter Try.func68, Try.ntmps68
      go_wp2_with fail
      go_ret
      exact ⟨by simp [h1, h2], rfl⟩
    · have t1 := decide_eq_true h1
      have t2 := decide_eq_false h2
      go_enter Try.func68, Try.ntmps68
      go_wp2_with fail
      go_ret
      exact ⟨by simp [h1, h2], rfl⟩
  · have t1 := decide_eq_false h1
    go_enter Try.func68, Try.ntmps68
    go_wp2_with fail
    go_ret
    exact ⟨by simp [h1], rfl⟩
theorem mins_take (O : List Int) {cs : List Nat} {i c : Nat} (v : Int) (h : cs[i]? = some c) : mins O (cs.take (i + 1)) v = (mins O (cs.take i) v).set c (min (tp (mins O (cs.take i) v) c) v) := by
  rw [List.take_add_one, h]
  exact mins_snoc _ _ _ _
end Go.Proofs.Ytjhldjojkaphkaa
