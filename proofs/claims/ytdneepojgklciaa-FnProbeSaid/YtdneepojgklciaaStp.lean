/-
  How far one point is from another, by the program and by the model.
-/
import Derived.Test.YtdneepojgklciaaPrMath
namespace Go.Proofs.Ytdneepojgklciaa
open Go.ChangeShapes Go.WideShapes Go.ChangeAt Go.RowKit
set_option linter.unusedVariables false
set_option linter.unusedSimpArgs false

theorem absM_any (x : Int) (w : World) (h0 : -1000000 ≤ x) (h1 : x ≤ 1000000) : Calls Try.prog 34 #[.int .i64 x] w fun e w' => e = .returned (.int .i64 (ab x)) ∧ w' = w := by
  unfold ab
  by_cases h : x < 0
  · have t : decide (x < 0) = true := decide_eq_true h
    rw [if_pos h]
    go_enter Try.func34, Try.ntmps34
    go_wp2
    go_ret
    exact ⟨rfl, rfl⟩
  · have t : decide (x < 0) = false := decide_eq_false h
    rw [if_neg h]
    go_enter Try.func34, Try.ntmps34
    go_wp2
    go_ret
    exact ⟨rfl, rfl⟩
set_option maxHeartbeats 1000000 in
theorem from_any (a b c d : Int) (w : World) (ha : -100000 ≤ a ∧ a ≤ 100000) (hb : -100000 ≤ b ∧ b ≤ 100000) (hc : -100000 ≤ c ∧ c ≤ 100000) (hd : -100000 ≤ d ∧ d ≤ 100000) :
    Calls Try.prog 42 #[.agg #[.int .i64 a, .int .i64 b], .agg #[.int .i64 c, .int .i64 d]] w fun e w' => e = .returned (.agg #[.int .i64 (a - c), .int .i64 (b - d)]) ∧ Below w.heap.size w w' := by
  obtain ⟨a0, a1⟩ := ha
  obtain ⟨b0, b1⟩ := hb
  obtain ⟨c0, c1⟩ := hc
  obtain ⟨d0, d1⟩ := hd
  go_enter Try.func42, Try.ntmps42
  go_wp2
  refine bodyPost_ret (v := .agg #[.int .i64 (a - c), .int .i64 (b - d)]) (by simp [results, Try.results42, go_sem]) rfl ⟨rfl, ?_⟩
  repeat (first | exact Below.refl _ _ | refine ba ?_ _ | refine Below.setCell ?_ _ _ _ | refine Below.drew ?_)
theorem max_ab (x : Int) : max x (-x) = ab x := by unfold ab; split <;> omega
set_option maxHeartbeats 1000000 in
theorem steps_any (a b : Int × Int) (w : World) (ha : Rpt a) (hb : Rpt b) :
    Calls Try.prog 31 #[.agg #[.int .i64 a.1, .int .i64 a.2], .agg #[.int .i64 b.1, .int .i64 b.2]] w fun e w' => e = .returned (.int .i64 (stp a b)) ∧ Below w.heap.size w w' := by
  obtain ⟨a1, a2⟩ := a
  obtain ⟨b1, b2⟩ := b
  have HF := hide (fun W => from_any b1 b2 a1 a2 W hb.1 hb.2 ha.1 ha.2)
  obtain ⟨⟨p1, p2⟩, p3, p4⟩ := ha
  obtain ⟨⟨q1, q2⟩, q3, q4⟩ := hb
  simp only at p1 p2 p3 p4 q1 q2 q3 q4
  unfold stp
  simp only
  go_enter Try.func31, Try.ntmps31
  go_wp2_with fail
  refine (unhide HF _).mono ?_
  rintro e W1 ⟨rfl, hb⟩
  have HB := hide hb
  clear hb
  go_wp2_with fail
  all_goals
    go_ret
    refine ⟨ret_int (by unfold ab; split <;> split <;> omega), ba (bc (ba (ba (Below.refl _ _) _) _) (unhide HB)) _⟩
theorem steps_ints (a1 a2 b1 b2 : Int) (w : World) (ha : Rpt (a1, a2)) (hb : Rpt (b1, b2)) :
    Calls Try.prog 31 #[.agg #[.int .i64 a1, .int .i64 a2], .agg #[.int .i64 b1, .int .i64 b2]] w fun e w' => e = .returned (.int .i64 (stp (a1, a2) (b1, b2))) ∧ Below w.heap.size w w' := steps_any (a1, a2) (b1, b2) w ha hb
/-- points lie in the cells from off on, two cells each -/
def PtsAt (w : World) (b off : Nat) (L : List (Int × Int)) : Prop :=
  ∀ (j : Nat) (x : Int × Int), L[j]? = some x → w.cell? ⟨b, off + j * 2, none⟩ = some (.int .i64 x.1) ∧ w.cell? ⟨b, off + j * 2 + 1, none⟩ = some (.int .i64 x.2)
end Go.Proofs.Ytdneepojgklciaa
