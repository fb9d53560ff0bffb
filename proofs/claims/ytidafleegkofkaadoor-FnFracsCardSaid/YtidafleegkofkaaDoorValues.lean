/-
  Values of fractions: a product of a sum is the sum of the products; what the answers of sums and products are made of.
-/
import Derived.Test.YtidafleegkofkaaDoorReads
namespace Go.Proofs.YtidafleegkofkaaDoor
open Go.ChangeShapes Go.WideShapes Go.ChangeAt Go.RowKit
set_option linter.unusedVariables false

theorem val_trans (n d x y u v : Int) (hy : 0 < y) (h1 : n * y = x * d) (h2 : x * v = u * y) : n * v = u * d := by
  have h : y * (n * v) = y * (u * d) := by
    have a1 : y * (n * v) = (n * y) * v := by ac_rfl
    have a2 : (x * d) * v = (x * v) * d := by ac_rfl
    have a3 : (u * y) * d = y * (u * d) := by ac_rfl
    rw [a1, h1, a2, h2, a3]
  exact Int.eq_of_mul_eq_mul_left (by omega) h
theorem val_mul (n d x y c e : Int) (h : n * y = x * d) : (n * c) * (y * e) = (x * c) * (d * e) := by
  have a1 : (n * c) * (y * e) = (n * y) * (c * e) := by ac_rfl
  have a2 : (x * d) * (c * e) = (x * c) * (d * e) := by ac_rfl
  rw [a1, h, a2]
theorem val_add (n d x y m e u z : Int) (h1 : n * y = x * d) (h2 : m * z = u * e) : (n * e + m * d) * (y * z) = (x * z + u * y) * (d * e) := by
  have a1 : (n * e) * (y * z) = (n * y) * (e * z) := by ac_rfl
  have a2 : (m * d) * (y * z) = (m * z) * (d * y) := by ac_rfl
  have a3 : (x * d) * (e * z) = (x * z) * (d * e) := by ac_rfl
  have a4 : (u * e) * (d * y) = (u * y) * (d * e) := by ac_rfl
  rw [Int.add_mul, Int.add_mul, a1, a2, h1, h2, a3, a4]
theorem val_dist (n0 d0 n1 d1 n2 d2 : Int) : ((n0 * d1 + n1 * d0) * n2) * ((d0 * d2) * (d1 * d2)) = ((n0 * n2) * (d1 * d2) + (n1 * n2) * (d0 * d2)) * ((d0 * d1) * d2) := by
  have a1 : (n0 * d1) * n2 * ((d0 * d2) * (d1 * d2)) = (n0 * n2) * (d1 * d2) * ((d0 * d1) * d2) := by ac_rfl
  have a2 : (n1 * d0) * n2 * ((d0 * d2) * (d1 * d2)) = (n1 * n2) * (d0 * d2) * ((d0 * d1) * d2) := by ac_rfl
  rw [Int.add_mul, Int.add_mul, Int.add_mul, a1, a2]

/-- an answer of a sum or a product: its letters, their bounds, and what a code of 0 says -/
theorem pair_full (n0 d0 n1 d1 x y : Int) : ∃ X Y C : Int, pairAns n0 d0 n1 d1 x y = .tuple #[.agg #[.int .i64 X, .int .i64 Y], .int .i64 C] ∧ (-1000000000 ≤ X ∧ X ≤ 1000000000) ∧ (0 ≤ Y ∧ Y ≤ 1000000000) ∧
    (C = 0 → frOk n0 d0 = true ∧ frOk n1 d1 = true ∧ (0 < y → X * y = x * Y) ∧ frOk X Y = true) := by
  unfold pairAns
  by_cases h : frOk n0 d0 = true ∧ frOk n1 d1 = true
  · rw [if_pos h]
    exact ⟨_, _, _, rfl, wf_N x y, wf_D x y, fun hc => ⟨h.1, h.2, fun hy => value_eq x y hy hc, right_of x y hc⟩⟩
  · rw [if_neg h]
    exact ⟨0, 0, 1, rfl, by omega, by omega, fun hc => by omega⟩

theorem dist_right (n0 d0 n1 d1 n2 d2 xn xd pn pd mn md kn kd qn qd : Int) (o0 : frOk n0 d0 = true) (o1 : frOk n1 d1 = true) (o2 : frOk n2 d2 = true)
    (ox : frOk xn xd = true) (op : frOk pn pd = true) (om : frOk mn md = true) (ok : frOk kn kd = true) (oq : frOk qn qd = true)
    (hx : xn * (d0 * d1) = (n0 * d1 + n1 * d0) * xd) (hp : pn * (xd * d2) = (xn * n2) * pd) (hm : mn * (d0 * d2) = (n0 * n2) * md) (hk : kn * (d1 * d2) = (n1 * n2) * kd) (hq : qn * (md * kd) = (mn * kd + kn * md) * qd) :
    pn = qn ∧ pd = qd := by
  obtain ⟨_, b0, _⟩ := ok_bd o0
  obtain ⟨_, b1, _⟩ := ok_bd o1
  obtain ⟨_, b2, _⟩ := ok_bd o2
  obtain ⟨_, bx, _⟩ := ok_bd ox
  obtain ⟨_, bm, _⟩ := ok_bd om
  obtain ⟨_, bk, _⟩ := ok_bd ok
  have pos : ∀ a b : Int, 1 ≤ a → 1 ≤ b → 0 < a * b := fun a b ha hb => Int.mul_pos (by omega) (by omega)
  -- both are the value of one pair
  have s1 : pn * ((d0 * d1) * d2) = ((n0 * d1 + n1 * d0) * n2) * pd := val_trans pn pd (xn * n2) (xd * d2) _ _ (pos _ _ bx b2) hp (val_mul xn xd (n0 * d1 + n1 * d0) (d0 * d1) n2 d2 hx)
  have s2 : qn * ((d0 * d2) * (d1 * d2)) = ((n0 * n2) * (d1 * d2) + (n1 * n2) * (d0 * d2)) * qd := val_trans qn qd (mn * kd + kn * md) (md * kd) _ _ (pos _ _ bm bk) hq (val_add mn md (n0 * n2) (d0 * d2) kn kd (n1 * n2) (d1 * d2) hm hk)
  have p3 : 0 < (d0 * d1) * d2 := Int.mul_pos (pos _ _ b0 b1) (by omega)
  have p4 : 0 < (d0 * d2) * (d1 * d2) := Int.mul_pos (pos _ _ b0 b2) (pos _ _ b1 b2)
  have s3 : pn * ((d0 * d2) * (d1 * d2)) = ((n0 * n2) * (d1 * d2) + (n1 * n2) * (d0 * d2)) * pd := val_trans pn pd _ ((d0 * d1) * d2) _ _ p3 s1 (val_dist n0 d0 n1 d1 n2 d2)
  refine right_eq pn pd qn qd op oq ?_
  exact val_trans pn pd _ ((d0 * d2) * (d1 * d2)) qn qd p4 s3 (by rw [s2])
end Go.Proofs.YtidafleegkofkaaDoor
