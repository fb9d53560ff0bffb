/-
  What the small functions of the plane answer: sides, ways, signs, right points.
-/
import Derived.Test.YtimkinpbimangaaProg
import Derived.WalkKit
import Derived.ProofKit
import Derived.OpenShut
import Derived.Deep.QuietTactic
import Derived.BigQuiet
import Derived.Below
import Derived.Test.YtimkinpbimangaaPlane
import Derived.Test.YtimkinpbimangaaBase
namespace Go.Proofs.Ytimkinpbimangaa
open Go.ChangeShapes Go.WideShapes Go.ChangeAt Go.RowKit
set_option linter.unusedVariables false

/-- a point as a value -/
abbrev ptv (p : Pt) : Value := .agg #[.int .i64 p.1, .int .i64 p.2]
theorem mul_bd (x y A B : Int) (hx1 : -A ≤ x) (hx2 : x ≤ A) (hy1 : -B ≤ y) (hy2 : y ≤ B) : -(A * B) ≤ x * y ∧ x * y ≤ A * B := by
  have h : (x * y).natAbs ≤ (A * B).natAbs := by
    rw [Int.natAbs_mul, Int.natAbs_mul]
    exact Nat.mul_le_mul (by omega) (by omega)
  have hp : 0 ≤ A * B := Int.mul_nonneg (by omega) (by omega)
  omega
theorem ok_bd {p : Pt} (h : ptOk p = true) : -100000 ≤ p.1 ∧ p.1 ≤ 100000 ∧ -100000 ≤ p.2 ∧ p.2 ≤ 100000 := of_decide_eq_true h

set_option maxHeartbeats 1000000 in
theorem side_any (a b c : Pt) (w : World) (ha : ptOk a = true) (hb : ptOk b = true) (hc : ptOk c = true) :
    Calls Try.prog 76 #[ptv a, ptv b, ptv c] w fun e w' => e = .returned (.int .i64 (side a b c)) ∧ Below w.heap.size w w' := by
  obtain ⟨a1, a2⟩ := a
  obtain ⟨b1, b2⟩ := b
  obtain ⟨c1, c2⟩ := c
  obtain ⟨p1, p2, p3, p4⟩ := ok_bd ha
  obtain ⟨q1, q2, q3, q4⟩ := ok_bd hb
  obtain ⟨r1, r2, r3, r4⟩ := ok_bd hc
  clear ha hb hc
  simp only at p1 p2 p3 p4 q1 q2 q3 q4 r1 r2 r3 r4
  have m1 := mul_bd (b1 - a1) (c2 - a2) 200000 200000 (by omega) (by omega) (by omega) (by omega)
  have m2 := mul_bd (b2 - a2) (c1 - a1) 200000 200000 (by omega) (by omega) (by omega) (by omega)
  obtain ⟨m1, m1'⟩ := m1
  obtain ⟨m2, m2'⟩ := m2
  go_enter Try.func76, Try.ntmps76
  go_wp2
  go_ret
  exact ⟨rfl, (((Below.refl _ _).alloc (Nat.le_refl _) _).alloc (by simp) _).alloc (by simp; omega) _⟩
end Go.Proofs.Ytimkinpbimangaa
