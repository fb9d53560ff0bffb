/-
  More of the small functions of the plane: ways, signs, turns, orders, right points.
-/
import Derived.Test.YtimkinpbimangaaLeaves
import Derived.Deep.RegionHeld3
import Derived.Deep.DeepCutAuto
namespace Go.Proofs.Ytimkinpbimangaa
open Go.ChangeShapes Go.WideShapes Go.ChangeAt Go.RowKit
set_option linter.unusedVariables false
set_option linter.unusedSimpArgs false


theorem acr_exact (a1 a2 b1 b2 : Int) (w : World) (ha : (-200000 ≤ a1 ∧ a1 ≤ 200000) ∧ -200000 ≤ a2 ∧ a2 ≤ 200000) (hb : (-200000 ≤ b1 ∧ b1 ≤ 200000) ∧ -200000 ≤ b2 ∧ b2 ≤ 200000) :
    Calls Try.prog 66 #[.agg #[.int .i64 a1, .int .i64 a2], .agg #[.int .i64 b1, .int .i64 b2]] w fun e w' => e = .returned (.int .i64 (a1 * b2 - a2 * b1)) ∧ w' = (w.alloc (.cells #[.int .i64 a1, .int .i64 a2] 32)).alloc (.cells #[.int .i64 b1, .int .i64 b2] 32) := by
  obtain ⟨⟨p1, p2⟩, p3, p4⟩ := ha
  obtain ⟨⟨q1, q2⟩, q3, q4⟩ := hb
  obtain ⟨m1, m1'⟩ := mul_bd a1 b2 200000 200000 (by omega) (by omega) (by omega) (by omega)
  obtain ⟨m2, m2'⟩ := mul_bd a2 b1 200000 200000 (by omega) (by omega) (by omega) (by omega)
  go_enter Try.func66, Try.ntmps66
  go_wp2
  go_ret
  exact ⟨rfl, rfl⟩
theorem sub_exact (a1 a2 b1 b2 : Int) (w : World) (ha : ptOk (a1, a2) = true) (hb : ptOk (b1, b2) = true) :
    Calls Try.prog 64 #[.agg #[.int .i64 a1, .int .i64 a2], .agg #[.int .i64 b1, .int .i64 b2]] w fun e w' => e = .returned (.agg #[.int .i64 (a1 - b1), .int .i64 (a2 - b2)]) ∧ w' = ((w.alloc (.cells #[.int .i64 a1, .int .i64 a2] 32)).alloc (.cells #[.int .i64 b1, .int .i64 b2] 32)).alloc (.cells #[.int .i64 (a1 - b1), .int .i64 (a2 - b2)] 32) := by
  obtain ⟨p1, p2, p3, p4⟩ := ok_bd ha
  obtain ⟨q1, q2, q3, q4⟩ := ok_bd hb
  simp only at p1 p2 p3 p4 q1 q2 q3 q4
  clear ha hb
  go_enter Try.func64, Try.ntmps64
  go_wp2
  exact bodyPost_ret (v := .agg #[.int .i64 (a1 - b1), .int .i64 (a2 - b2)]) (by simp [results, Try.results64, go_sem]) rfl ⟨rfl, by simp [go_sem]⟩
theorem sign_any (n : Int) (w : World) : Calls Try.prog 65 #[.int .i64 n] w fun e w' => e = .returned (.int .i64 (sgn n)) ∧ w' = w := by
  by_cases h1 : 0 < n
  · have b1 : decide (0 < n) = true := decide_eq_true h1
    go_enter Try.func65, Try.ntmps65
    go_wp2
    go_ret
    exact ⟨ret_int (by rw [sgn_pos h1]), rfl⟩
  · by_cases h2 : n < 0
    · have b1 : decide (0 < n) = false := decide_eq_false h1
      have b2 : decide (n < 0) = true := decide_eq_true h2
      go_enter Try.func65, Try.ntmps65
      go_wp2
      go_ret
      exact ⟨ret_int (by rw [sgn_neg h2]), rfl⟩
    · have b1 : decide (0 < n) = false := decide_eq_false h1
      have b2 : decide (n < 0) = false := decide_eq_false h2
      go_enter Try.func65, Try.ntmps65
      go_wp2
      go_ret
      exact ⟨ret_int (by have : n = 0 := by omega
                         subst this; rfl), rfl⟩
theorem signM_any (n : Int) (w : World) : Calls Try.prog 78 #[.int .i64 n] w fun e w' => e = .returned (.int .i64 (sgn n)) ∧ w' = w := by
  by_cases h1 : 0 < n
  · have b1 : decide (0 < n) = true := decide_eq_true h1
    go_enter Try.func78, Try.ntmps78
    go_wp2
    go_ret
    exact ⟨ret_int (by rw [sgn_pos h1]), rfl⟩
  · by_cases h2 : n < 0
    · have b1 : decide (0 < n) = false := decide_eq_false h1
      have b2 : decide (n < 0) = true := decide_eq_true h2
      go_enter Try.func78, Try.ntmps78
      go_wp2
      go_ret
      exact ⟨ret_int (by rw [sgn_neg h2]), rfl⟩
    · have b1 : decide (0 < n) = false := decide_eq_false h1
      have b2 : decide (n < 0) = false := decide_eq_false h2
      go_enter Try.func78, Try.ntmps78
      go_wp2
      go_ret
      exact ⟨ret_int (by have : n = 0 := by omega
                         subst this; rfl), rfl⟩
theorem dif_bd {a1 a2 b1 b2 : Int} (ha : ptOk (a1, a2) = true) (hb : ptOk (b1, b2) = true) : (-200000 ≤ a1 - b1 ∧ a1 - b1 ≤ 200000) ∧ -200000 ≤ a2 - b2 ∧ a2 - b2 ≤ 200000 := by
  obtain ⟨p1, p2, p3, p4⟩ := ok_bd ha
  obtain ⟨q1, q2, q3, q4⟩ := ok_bd hb
  simp only at p1 p2 p3 p4 q1 q2 q3 q4
  omega
set_option maxRecDepth 100000 in
set_option maxHeartbeats 400000 in
/-- the turn of three right points, by the program -/
theorem turn_ints (a1 a2 b1 b2 c1 c2 : Int) (w : World) (ha : ptOk (a1, a2) = true) (hb : ptOk (b1, b2) = true) (hc : ptOk (c1, c2) = true) :
    Calls Try.prog 88 #[.agg #[.int .i64 a1, .int .i64 a2], .agg #[.int .i64 b1, .int .i64 b2], .agg #[.int .i64 c1, .int .i64 c2]] w fun e w' => e = .returned (.int .i64 (sgn ((b1 - a1) * (c2 - a2) - (b2 - a2) * (c1 - a1)))) ∧ Below w.heap.size w w' := by
  have HA := hide ha
  have HB := hide hb
  have HC := hide hc
  clear ha hb hc
  go_enter Try.func88, Try.ntmps88
  go_wp2_with fail
  go_region_held3 (fun wx => wx.cell? ⟨w.heap.size, 0, none⟩ = some (.int .i64 a1) ∧ wx.cell? ⟨w.heap.size, 1, none⟩ = some (.int .i64 a2) ∧ wx.cell? ⟨w.heap.size + 1, 0, none⟩ = some (.int .i64 b1) ∧ wx.cell? ⟨w.heap.size + 1, 1, none⟩ = some (.int .i64 b2) ∧ wx.cell? ⟨w.heap.size + 1 + 1, 0, none⟩ = some (.int .i64 c1) ∧ wx.cell? ⟨w.heap.size + 1 + 1, 1, none⟩ = some (.int .i64 c2))
    (simp (maxDischargeDepth := 12) [go_sem, le1, lt1, *])
    (first
    | (go_at_call 64; refine (sub_exact _ _ _ _ _ ?_ ?_).mono ?_; (first | exact unhide HB | exact unhide HC); exact unhide HA; rintro e w' ⟨rfl, rfl⟩)
    | (go_at_call 66; refine (acr_exact _ _ _ _ _ (dif_bd (unhide HB) (unhide HA)) (dif_bd (unhide HC) (unhide HA))).mono ?_; rintro e w' ⟨rfl, rfl⟩)
    | (go_at_call 65; refine (sign_any _ _).mono ?_; rintro e w' ⟨rfl, rfl⟩))
  all_goals
    go_wp2_with fail
    go_ret
    refine ⟨rfl, ?_⟩
    repeat (first | exact Below.refl _ _ | refine ba ?_ _ | refine Below.drew ?_)
end Go.Proofs.Ytimkinpbimangaa
