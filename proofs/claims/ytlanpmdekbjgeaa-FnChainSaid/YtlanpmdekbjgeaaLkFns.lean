/-
  The program's small functions of one link.
-/
import Derived.Test.YtlanpmdekbjgeaaChMath
import Derived.Test.YtlanpmdekbjgeaaNameOK
import Derived.Shelf.Abstract
namespace Go.Proofs.Ytlanpmdekbjgeaa
open Go.ChangeShapes Go.WideShapes Go.ChangeAt Go.RowKit Go.Shelf
set_option linter.unusedVariables false
set_option linter.unusedSimpArgs false

theorem enters35 : ∀ args w, (callFunc 35 args).run Try.prog w = .ok (.enter 35 args) w := enters_of Try.func35 (by kernel_rfl) rfl
theorem enters52 : ∀ args w, (callFunc 52 args).run Try.prog w = .ok (.enter 52 args) w := enters_of Try.func52 (by kernel_rfl) rfl
theorem enters53 : ∀ args w, (callFunc 53 args).run Try.prog w = .ok (.enter 53 args) w := enters_of Try.func53 (by kernel_rfl) rfl
theorem enters54 : ∀ args w, (callFunc 54 args).run Try.prog w = .ok (.enter 54 args) w := enters_of Try.func54 (by kernel_rfl) rfl
theorem enters55 : ∀ args w, (callFunc 55 args).run Try.prog w = .ok (.enter 55 args) w := enters_of Try.func55 (by kernel_rfl) rfl
theorem enters56 : ∀ args w, (callFunc 56 args).run Try.prog w = .ok (.enter 56 args) w := enters_of Try.func56 (by kernel_rfl) rfl

def btw (x a b : Int) : Bool := decide (a ≤ x ∧ x ≤ b)
theorem btw_any (x a b : Int) (w : World) : Calls Try.prog 39 #[.int .i64 x, .int .i64 a, .int .i64 b] w fun e w' => e = .returned (.bool (btw x a b)) ∧ w' = w := by
  by_cases h0 : a ≤ x
  · have t0 : decide (a ≤ x) = true := decide_eq_true h0
    by_cases h1 : x ≤ b
    · have t1 : decide (x ≤ b) = true := decide_eq_true h1
      rw [show btw x a b = true from decide_eq_true ⟨h0, h1⟩]
      go_enter Try.func39, Try.ntmps39
      go_wp2
      go_ret
      exact ⟨rfl, rfl⟩
    · have t1 : decide (x ≤ b) = false := decide_eq_false h1
      rw [show btw x a b = false from decide_eq_false (fun h => h1 h.2)]
      go_enter Try.func39, Try.ntmps39
      go_wp2
      go_ret
      exact ⟨rfl, rfl⟩
  · have t0 : decide (a ≤ x) = false := decide_eq_false h0
    rw [show btw x a b = false from decide_eq_false (fun h => h0 h.1)]
    go_enter Try.func39, Try.ntmps39
    go_wp2
    go_ret
    exact ⟨rfl, rfl⟩

theorem tol_any (s : ByteArray) (a b c d : Int) (w : World) (h : LOk ⟨s, a, b, c, d⟩) : Calls Try.prog 57 #[.agg #[.string s, .int .i64 a, .int .i64 b, .int .i64 c, .int .i64 d]] w fun e w' => e = .returned (.int .i64 (c + d)) ∧ Below w.heap.size w w' := by
  obtain ⟨_, q1, q2, q3, q4, q5, q6, q7⟩ := h
  simp only at q1 q2 q3 q4 q5 q6 q7
  clear q1
  go_enter Try.func57, Try.ntmps57
  go_wp2
  go_ret
  exact ⟨rfl, ba (Below.refl _ _) _⟩

theorem least_any (s : ByteArray) (a b c d : Int) (w : World) (h : LOk ⟨s, a, b, c, d⟩) : Calls Try.prog 53 #[.agg #[.string s, .int .i64 a, .int .i64 b, .int .i64 c, .int .i64 d]] w fun e w' => e = .returned (.int .i64 (lo ⟨s, a, b, c, d⟩)) ∧ Below w.heap.size w w' := by
  obtain ⟨_, q1, q2, q3, q4, q5, q6, q7⟩ := h
  simp only at q1 q2 q3 q4 q5 q6 q7
  rcases q1 with rfl | rfl
  · rw [show lo ⟨s, 1, b, c, d⟩ = b - d from rfl]
    go_enter Try.func53, Try.ntmps53
    go_wp2
    all_goals (go_ret; exact ⟨ret_int (by omega), ba (Below.refl _ _) _⟩)
  · rw [show lo ⟨s, -1, b, c, d⟩ = -b - c from rfl]
    go_enter Try.func53, Try.ntmps53
    go_wp2
    all_goals (go_ret; exact ⟨ret_int (by omega), ba (Below.refl _ _) _⟩)
theorem most_any (s : ByteArray) (a b c d : Int) (w : World) (h : LOk ⟨s, a, b, c, d⟩) : Calls Try.prog 55 #[.agg #[.string s, .int .i64 a, .int .i64 b, .int .i64 c, .int .i64 d]] w fun e w' => e = .returned (.int .i64 (hi ⟨s, a, b, c, d⟩)) ∧ Below w.heap.size w w' := by
  obtain ⟨_, q1, q2, q3, q4, q5, q6, q7⟩ := h
  simp only at q1 q2 q3 q4 q5 q6 q7
  rcases q1 with rfl | rfl
  · rw [show hi ⟨s, 1, b, c, d⟩ = b + c from rfl]
    go_enter Try.func55, Try.ntmps55
    go_wp2
    all_goals (go_ret; exact ⟨ret_int (by omega), ba (Below.refl _ _) _⟩)
  · rw [show hi ⟨s, -1, b, c, d⟩ = -b + d from rfl]
    go_enter Try.func55, Try.ntmps55
    go_wp2
    all_goals (go_ret; exact ⟨ret_int (by omega), ba (Below.refl _ _) _⟩)
def sgn (x : Int) : Int := if 0 < x then 1 else if x < 0 then -1 else 0
theorem sgn_any (x : Int) (w : World) : Calls Try.prog 65 #[.int .i64 x] w fun e w' => e = .returned (.int .i64 (sgn x)) ∧ w' = w := by
  unfold sgn
  by_cases h0 : 0 < x
  · have t0 : decide (0 < x) = true := decide_eq_true h0
    rw [if_pos h0]
    go_enter Try.func65, Try.ntmps65
    go_wp2
    go_ret
    exact ⟨rfl, rfl⟩
  · have t0 : decide (0 < x) = false := decide_eq_false h0
    rw [if_neg h0]
    by_cases h1 : x < 0
    · have t1 : decide (x < 0) = true := decide_eq_true h1
      rw [if_pos h1]
      go_enter Try.func65, Try.ntmps65
      go_wp2
      go_ret
      exact ⟨rfl, rfl⟩
    · have t1 : decide (x < 0) = false := decide_eq_false h1
      rw [if_neg h1]
      go_enter Try.func65, Try.ntmps65
      go_wp2
      go_ret
      exact ⟨rfl, rfl⟩

set_option maxHeartbeats 1000000 in
theorem tolSq_any (s : ByteArray) (a b c d : Int) (w : World) (h : LOk ⟨s, a, b, c, d⟩) : Calls Try.prog 35 #[.agg #[.string s, .int .i64 a, .int .i64 b, .int .i64 c, .int .i64 d]] w fun e w' => e = .returned (.int .i64 (sq ⟨s, a, b, c, d⟩)) ∧ Below w.heap.size w w' := by
  have HT := hide (fun W => tol_any s a b c d W h)
  obtain ⟨_, q1, q2, q3, q4, q5, q6, q7⟩ := h
  simp only at q1 q2 q3 q4 q5 q6 q7
  obtain ⟨t0, t1⟩ := sqr_bound (a := c + d) (by omega) (by omega)
  have ew : IntKind.i64.wrap ((c + d) * (c + d)) = (c + d) * (c + d) := by rw [IntKind.wrap_i64]; omega
  rw [show sq ⟨s, a, b, c, d⟩ = (c + d) * (c + d) from rfl]
  clear q1 q2 q3 q4 q5 q6 q7
  go_enter Try.func35, Try.ntmps35
  go_wp2_with fail
  go_region_held3 (fun wx => wx.cell? ⟨w.heap.size, 0, none⟩ = some (.string s) ∧ wx.cell? ⟨w.heap.size, 1, none⟩ = some (.int .i64 a) ∧ wx.cell? ⟨w.heap.size, 2, none⟩ = some (.int .i64 b) ∧ wx.cell? ⟨w.heap.size, 3, none⟩ = some (.int .i64 c) ∧ wx.cell? ⟨w.heap.size, 4, none⟩ = some (.int .i64 d))
    (simp (maxDischargeDepth := 12) [go_sem, le1, lt1, *])
    (first
    | (go_at_call 57; refine (unhide HT _).mono ?_; rintro e w' ⟨rfl, hb⟩; have HBX : Hid (Below w.heap.size w w') := hide (bc (by repeat (first | exact unhide HBX | exact ba (Below.refl _ _) _ | refine Below.drew ?_)) hb); have y0 := keep1 hb (b := w.heap.size) (o := 0) (v := .string s) (by first | assumption | simp (maxDischargeDepth := 12) [go_sem, le1, lt1, *]); have y1 := keep1 hb (b := w.heap.size) (o := 1) (v := .int .i64 a) (by first | assumption | simp (maxDischargeDepth := 12) [go_sem, le1, lt1, *]); have y2 := keep1 hb (b := w.heap.size) (o := 2) (v := .int .i64 b) (by first | assumption | simp (maxDischargeDepth := 12) [go_sem, le1, lt1, *]); have y3 := keep1 hb (b := w.heap.size) (o := 3) (v := .int .i64 c) (by first | assumption | simp (maxDischargeDepth := 12) [go_sem, le1, lt1, *]); have y4 := keep1 hb (b := w.heap.size) (o := 4) (v := .int .i64 d) (by first | assumption | simp (maxDischargeDepth := 12) [go_sem, le1, lt1, *]); clear hb))
  all_goals
    go_wp2_with fail
    go_ret
    exact ⟨rfl, by repeat (first | exact unhide HBX | refine Below.drew ?_)⟩
set_option maxHeartbeats 1000000 in
theorem leastSide_any (s : ByteArray) (a b c d : Int) (w : World) (h : LOk ⟨s, a, b, c, d⟩) : Calls Try.prog 54 #[.agg #[.string s, .int .i64 a, .int .i64 b, .int .i64 c, .int .i64 d]] w fun e w' => e = .returned (.int .i64 (-a * sgn (c + d))) ∧ Below w.heap.size w w' := by
  have HT := hide (fun W => tol_any s a b c d W h)
  obtain ⟨_, q1, q2, q3, q4, q5, q6, q7⟩ := h
  simp only at q1 q2 q3 q4 q5 q6 q7
  have HS := hide (fun W => sgn_any (c + d) W)
  have hsg : -1 ≤ sgn (c + d) ∧ sgn (c + d) ≤ 1 := by unfold sgn; split <;> (try split) <;> omega
  generalize sgn (c + d) = g at *
  obtain ⟨g0, g1⟩ := hsg
  have ew : -1 ≤ a * g ∧ a * g ≤ 1 ∧ -1 ≤ -a ∧ -a ≤ 1 ∧ -1 ≤ -a * g ∧ -a * g ≤ 1 := by rcases q1 with e | e <;> subst e <;> omega
  obtain ⟨e1, e2, e3, e4, e5, e6⟩ := ew
  have w1 : IntKind.i64.wrap (-a) = -a := by rw [IntKind.wrap_i64]; omega
  have w2 : IntKind.i64.wrap (-a * g) = -a * g := by rw [IntKind.wrap_i64]; omega
  have w3 : IntKind.i64.wrap (a * g) = a * g := by rw [IntKind.wrap_i64]; omega
  clear e1 e2 e3 e4 e5 e6
  clear q1 q2 q3 q4 q5 q6 q7
  go_enter Try.func54, Try.ntmps54
  go_wp2_with fail
  go_region_held3 (fun wx => wx.cell? ⟨w.heap.size, 0, none⟩ = some (.string s) ∧ wx.cell? ⟨w.heap.size, 1, none⟩ = some (.int .i64 a) ∧ wx.cell? ⟨w.heap.size, 2, none⟩ = some (.int .i64 b) ∧ wx.cell? ⟨w.heap.size, 3, none⟩ = some (.int .i64 c) ∧ wx.cell? ⟨w.heap.size, 4, none⟩ = some (.int .i64 d))
    (simp (maxDischargeDepth := 12) [go_sem, le1, lt1, *])
    (first
    | (go_at_call 57; refine (unhide HT _).mono ?_; rintro e w' ⟨rfl, hb⟩; have HBX : Hid (Below w.heap.size w w') := hide (bc (by repeat (first | exact unhide HBX | exact ba (Below.refl _ _) _ | refine Below.drew ?_)) hb); have y0 := keep1 hb (b := w.heap.size) (o := 0) (v := .string s) (by first | assumption | simp (maxDischargeDepth := 12) [go_sem, le1, lt1, *]); have y1 := keep1 hb (b := w.heap.size) (o := 1) (v := .int .i64 a) (by first | assumption | simp (maxDischargeDepth := 12) [go_sem, le1, lt1, *]); have y2 := keep1 hb (b := w.heap.size) (o := 2) (v := .int .i64 b) (by first | assumption | simp (maxDischargeDepth := 12) [go_sem, le1, lt1, *]); have y3 := keep1 hb (b := w.heap.size) (o := 3) (v := .int .i64 c) (by first | assumption | simp (maxDischargeDepth := 12) [go_sem, le1, lt1, *]); have y4 := keep1 hb (b := w.heap.size) (o := 4) (v := .int .i64 d) (by first | assumption | simp (maxDischargeDepth := 12) [go_sem, le1, lt1, *]); clear hb)
    | (go_at_call 65; refine (unhide HS _).mono ?_; rintro e w' ⟨rfl, rfl⟩))
  all_goals
    go_wp2_with fail
    go_ret
    exact ⟨rfl, by repeat (first | exact unhide HBX | refine Below.drew ?_)⟩
set_option maxHeartbeats 1000000 in
theorem mostSide_any (s : ByteArray) (a b c d : Int) (w : World) (h : LOk ⟨s, a, b, c, d⟩) : Calls Try.prog 56 #[.agg #[.string s, .int .i64 a, .int .i64 b, .int .i64 c, .int .i64 d]] w fun e w' => e = .returned (.int .i64 (a * sgn (c + d))) ∧ Below w.heap.size w w' := by
  have HT := hide (fun W => tol_any s a b c d W h)
  obtain ⟨_, q1, q2, q3, q4, q5, q6, q7⟩ := h
  simp only at q1 q2 q3 q4 q5 q6 q7
  have HS := hide (fun W => sgn_any (c + d) W)
  have hsg : -1 ≤ sgn (c + d) ∧ sgn (c + d) ≤ 1 := by unfold sgn; split <;> (try split) <;> omega
  generalize sgn (c + d) = g at *
  obtain ⟨g0, g1⟩ := hsg
  have ew : -1 ≤ a * g ∧ a * g ≤ 1 ∧ -1 ≤ -a ∧ -a ≤ 1 ∧ -1 ≤ -a * g ∧ -a * g ≤ 1 := by rcases q1 with e | e <;> subst e <;> omega
  obtain ⟨e1, e2, e3, e4, e5, e6⟩ := ew
  have w1 : IntKind.i64.wrap (-a) = -a := by rw [IntKind.wrap_i64]; omega
  have w2 : IntKind.i64.wrap (-a * g) = -a * g := by rw [IntKind.wrap_i64]; omega
  have w3 : IntKind.i64.wrap (a * g) = a * g := by rw [IntKind.wrap_i64]; omega
  clear e1 e2 e3 e4 e5 e6
  clear q1 q2 q3 q4 q5 q6 q7
  go_enter Try.func56, Try.ntmps56
  go_wp2_with fail
  go_region_held3 (fun wx => wx.cell? ⟨w.heap.size, 0, none⟩ = some (.string s) ∧ wx.cell? ⟨w.heap.size, 1, none⟩ = some (.int .i64 a) ∧ wx.cell? ⟨w.heap.size, 2, none⟩ = some (.int .i64 b) ∧ wx.cell? ⟨w.heap.size, 3, none⟩ = some (.int .i64 c) ∧ wx.cell? ⟨w.heap.size, 4, none⟩ = some (.int .i64 d))
    (simp (maxDischargeDepth := 12) [go_sem, le1, lt1, *])
    (first
    | (go_at_call 57; refine (unhide HT _).mono ?_; rintro e w' ⟨rfl, hb⟩; have HBX : Hid (Below w.heap.size w w') := hide (bc (by repeat (first | exact unhide HBX | exact ba (Below.refl _ _) _ | refine Below.drew ?_)) hb); have y0 := keep1 hb (b := w.heap.size) (o := 0) (v := .string s) (by first | assumption | simp (maxDischargeDepth := 12) [go_sem, le1, lt1, *]); have y1 := keep1 hb (b := w.heap.size) (o := 1) (v := .int .i64 a) (by first | assumption | simp (maxDischargeDepth := 12) [go_sem, le1, lt1, *]); have y2 := keep1 hb (b := w.heap.size) (o := 2) (v := .int .i64 b) (by first | assumption | simp (maxDischargeDepth := 12) [go_sem, le1, lt1, *]); have y3 := keep1 hb (b := w.heap.size) (o := 3) (v := .int .i64 c) (by first | assumption | simp (maxDischargeDepth := 12) [go_sem, le1, lt1, *]); have y4 := keep1 hb (b := w.heap.size) (o := 4) (v := .int .i64 d) (by first | assumption | simp (maxDischargeDepth := 12) [go_sem, le1, lt1, *]); clear hb)
    | (go_at_call 65; refine (unhide HS _).mono ?_; rintro e w' ⟨rfl, rfl⟩))
  all_goals
    go_wp2_with fail
    go_ret
    exact ⟨rfl, by repeat (first | exact unhide HBX | refine Below.drew ?_)⟩
end Go.Proofs.Ytlanpmdekbjgeaa
