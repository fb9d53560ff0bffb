/-
  The program's small functions of one link.
-/
import Derived.Test.YtmhdodecofpchaaChMath
import Derived.Test.YtmhdodecofpchaaNameOK
import Derived.Shelf.Abstract
namespace Go.Proofs.Ytmhdodecofpchaa
open Go.ChangeShapes Go.WideShapes Go.ChangeAt Go.RowKit Go.Shelf
set_option linter.unusedVariables false
set_option linter.unusedSimpArgs false

theorem enters52 : ∀ args w, (callFunc 56 args).run Try.prog w = .ok (.enter 56 args) w := enters_of Try.func56 (by kernel_rfl) rfl
def btw (x a b : Int) : Bool := decide (a ≤ x ∧ x ≤ b)
theorem btw_any (x a b : Int) (w : World) : Calls Try.prog 33 #[.int .i64 x, .int .i64 a, .int .i64 b] w fun e w' => e = .returned (.bool (btw x a b)) ∧ w' = w := by
  by_cases h0 : a ≤ x
  · have t0 : decide (a ≤ x) = true := decide_eq_true h0
    by_cases h1 : x ≤ b
    · have t1 : decide (x ≤ b) = true := decide_eq_true h1
      rw [show btw x a b = true from decide_eq_true ⟨h0, h1⟩]
      go_enter Try.func33, Try.ntmps33
      go_wp2
      go_ret
      exact ⟨rfl, rfl⟩
    · have t1 : decide (x ≤ b) = false := decide_eq_false h1
      rw [show btw x a b = false from decide_eq_false (fun h => h1 h.2)]
      go_enter Try.func33, Try.ntmps33
      go_wp2
      go_ret
      exact ⟨rfl, rfl⟩
  · have t0 : decide (a ≤ x) = false := decide_eq_false h0
    rw [show btw x a b = false from decide_eq_false (fun h => h0 h.1)]
    go_enter Try.func33, Try.ntmps33
    go_wp2
    go_ret
    exact ⟨rfl, rfl⟩

def sgn (x : Int) : Int := if 0 < x then 1 else if x < 0 then -1 else 0
end Go.Proofs.Ytmhdodecofpchaa
