/-
  FitKind of both sides.
-/
import Derived.Test.YtlhpakefalfibaaSizes
namespace Go.Proofs.Ytlhpakefalfibaa
open Go.ChangeShapes Go.WideShapes Go.ChangeAt Go.RowKit
set_option linter.unusedVariables false
set_option linter.unusedSimpArgs false

def kindI (l m : Int) : Int := if 0 ≤ l then 1 else if m ≤ 0 then 2 else 3
/-- the answer: kind, least, greatest, code -/
def fitOk (a b c d : Int) : Bool := szB a && szB b && szB c && szB d && !decide (b < a) && !decide (d < c)
def fitV (a b c d : Int) : Value := if fitOk a b c d = true then .tuple #[.int .i64 (kindI (a - d) (b - c)), .int .i64 (a - d), .int .i64 (b - c), .int .i64 0] else .tuple #[.int .i64 0, .int .i64 0, .int .i64 0, .int .i64 1]
theorem szB_iff (x : Int) : szB x = true ↔ 0 ≤ x ∧ x ≤ 100000 := by unfold szB btw; simp

theorem kind_any (l m : Int) (w : World) : Calls Try.prog 15 #[.int .i64 l, .int .i64 m] w fun e w' => e = .returned (.int .i64 (kindI l m)) ∧ w' = w := by
  unfold kindI
  by_cases h : 0 ≤ l
  · have t : decide (0 ≤ l) = true := decide_eq_true h
    rw [if_pos h]
    go_enter Try.func15, Try.ntmps15
    go_wp2
    go_ret
    exact ⟨rfl, rfl⟩
  · have t : decide (0 ≤ l) = false := decide_eq_false h
    rw [if_neg h]
    by_cases h2 : m ≤ 0
    · have t2 : decide (m ≤ 0) = true := decide_eq_true h2
      rw [if_pos h2]
      go_enter Try.func15, Try.ntmps15
      go_wp2
      go_ret
      exact ⟨rfl, rfl⟩
    · have t2 : decide (m ≤ 0) = false := decide_eq_false h2
      rw [if_neg h2]
      go_enter Try.func15, Try.ntmps15
      go_wp2
      go_ret
      exact ⟨rfl, rfl⟩

theorem l07_any (x : Int) (w : World) : Calls Try.prog 16 #[.int .i64 x] w fun e w' => e = .returned (.bool (szB x)) ∧ w' = w := by
  by_cases h0 : 0 ≤ x
  · have t0 : decide (0 ≤ x) = true := decide_eq_true h0
    by_cases h1 : x ≤ 100000
    · have t1 : decide (x ≤ 100000) = true := decide_eq_true h1
      rw [show szB x = true from decide_eq_true ⟨h0, h1⟩]
      go_enter Try.func16, Try.ntmps16
      go_wp2
      go_ret
      exact ⟨rfl, rfl⟩
    · have t1 : decide (x ≤ 100000) = false := decide_eq_false h1
      rw [show szB x = false from decide_eq_false (fun h => h1 h.2)]
      go_enter Try.func16, Try.ntmps16
      go_wp2
      go_ret
      exact ⟨rfl, rfl⟩
  · have t0 : decide (0 ≤ x) = false := decide_eq_false h0
    rw [show szB x = false from decide_eq_false (fun h => h0 h.1)]
    go_enter Try.func16, Try.ntmps16
    go_wp2
    go_ret
    exact ⟨rfl, rfl⟩

set_option maxHeartbeats 1000000 in
/-- the model's -/
theorem fitM_any (a b c d : Int) (w : World) : Calls Try.prog 7 #[.int .i64 a, .int .i64 b, .int .i64 c, .int .i64 d] w fun e w' => e = .returned (fitV a b c d) ∧ w' = w := by
  have HA := hide (fun W => l07_any a W)
  have HB := hide (fun W => l07_any b W)
  have HC := hide (fun W => l07_any c W)
  have HD := hide (fun W => l07_any d W)
  have IA := hide (szB_iff a)
  have IB := hide (szB_iff b)
  have IC := hide (szB_iff c)
  have ID := hide (szB_iff d)
  unfold fitV fitOk kindI
  generalize szB a = pa at *
  generalize szB b = pb at *
  generalize szB c = pc at *
  generalize szB d = pd at *
  cases pa
  · simp only [Bool.false_and, Bool.and_false, Bool.true_and, Bool.false_eq_true, if_false]
    go_enter Try.func7, Try.ntmps7
    go_wp2_with fail
    refine (unhide HA _).mono ?_
    rintro e W1 ⟨rfl, rfl⟩
    go_wp2_with fail
    exact bodyPost_ret (by simp [results, Try.results7, go_sem]) rfl ⟨rfl, rfl⟩
  cases pb
  · simp only [Bool.false_and, Bool.and_false, Bool.true_and, Bool.false_eq_true, if_false]
    go_enter Try.func7, Try.ntmps7
    go_wp2_with fail
    refine (unhide HA _).mono ?_
    rintro e W1 ⟨rfl, rfl⟩
    go_wp2_with fail
    refine (unhide HB _).mono ?_
    rintro e W1 ⟨rfl, rfl⟩
    go_wp2_with fail
    exact bodyPost_ret (by simp [results, Try.results7, go_sem]) rfl ⟨rfl, rfl⟩
  cases pc
  · simp only [Bool.false_and, Bool.and_false, Bool.true_and, Bool.false_eq_true, if_false]
    go_enter Try.func7, Try.ntmps7
    go_wp2_with fail
    refine (unhide HA _).mono ?_
    rintro e W1 ⟨rfl, rfl⟩
    go_wp2_with fail
    refine (unhide HB _).mono ?_
    rintro e W1 ⟨rfl, rfl⟩
    go_wp2_with fail
    refine (unhide HC _).mono ?_
    rintro e W1 ⟨rfl, rfl⟩
    go_wp2_with fail
    exact bodyPost_ret (by simp [results, Try.results7, go_sem]) rfl ⟨rfl, rfl⟩
  cases pd
  · simp only [Bool.false_and, Bool.and_false, Bool.true_and, Bool.false_eq_true, if_false]
    go_enter Try.func7, Try.ntmps7
    go_wp2_with fail
    refine (unhide HA _).mono ?_
    rintro e W1 ⟨rfl, rfl⟩
    go_wp2_with fail
    refine (unhide HB _).mono ?_
    rintro e W1 ⟨rfl, rfl⟩
    go_wp2_with fail
    refine (unhide HC _).mono ?_
    rintro e W1 ⟨rfl, rfl⟩
    go_wp2_with fail
    refine (unhide HD _).mono ?_
    rintro e W1 ⟨rfl, rfl⟩
    go_wp2_with fail
    exact bodyPost_ret (by simp [results, Try.results7, go_sem]) rfl ⟨rfl, rfl⟩
  obtain ⟨a0, a1⟩ := (unhide IA).1 rfl
  obtain ⟨b0, b1⟩ := (unhide IB).1 rfl
  obtain ⟨c0, c1⟩ := (unhide IC).1 rfl
  obtain ⟨d0, d1⟩ := (unhide ID).1 rfl
  by_cases q1 : b < a
  · have t1 : decide (b < a) = true := decide_eq_true q1
    rw [if_neg (by simp [t1])]
    go_enter Try.func7, Try.ntmps7
    go_wp2_with fail
    refine (unhide HA _).mono ?_
    rintro e W1 ⟨rfl, rfl⟩
    go_wp2_with fail
    refine (unhide HB _).mono ?_
    rintro e W1 ⟨rfl, rfl⟩
    go_wp2_with fail
    refine (unhide HC _).mono ?_
    rintro e W1 ⟨rfl, rfl⟩
    go_wp2_with fail
    refine (unhide HD _).mono ?_
    rintro e W1 ⟨rfl, rfl⟩
    go_wp2_with fail
    exact bodyPost_ret (by simp [results, Try.results7, go_sem]) rfl ⟨rfl, rfl⟩
  have t1 : decide (b < a) = false := decide_eq_false q1
  by_cases q2 : d < c
  · have t2 : decide (d < c) = true := decide_eq_true q2
    rw [if_neg (by simp [t2])]
    go_enter Try.func7, Try.ntmps7
    go_wp2_with fail
    refine (unhide HA _).mono ?_
    rintro e W1 ⟨rfl, rfl⟩
    go_wp2_with fail
    refine (unhide HB _).mono ?_
    rintro e W1 ⟨rfl, rfl⟩
    go_wp2_with fail
    refine (unhide HC _).mono ?_
    rintro e W1 ⟨rfl, rfl⟩
    go_wp2_with fail
    refine (unhide HD _).mono ?_
    rintro e W1 ⟨rfl, rfl⟩
    go_wp2_with fail
    exact bodyPost_ret (by simp [results, Try.results7, go_sem]) rfl ⟨rfl, rfl⟩
  have t2 : decide (d < c) = false := decide_eq_false q2
  rw [if_pos (by simp [t1, t2])]
  by_cases q3 : 0 ≤ a - d
  · have t3 : decide (0 ≤ a - d) = true := decide_eq_true q3
    rw [if_pos q3]
    go_enter Try.func7, Try.ntmps7
    go_wp2_with fail
    refine (unhide HA _).mono ?_
    rintro e W1 ⟨rfl, rfl⟩
    go_wp2_with fail
    refine (unhide HB _).mono ?_
    rintro e W1 ⟨rfl, rfl⟩
    go_wp2_with fail
    refine (unhide HC _).mono ?_
    rintro e W1 ⟨rfl, rfl⟩
    go_wp2_with fail
    refine (unhide HD _).mono ?_
    rintro e W1 ⟨rfl, rfl⟩
    go_wp2_with fail
    exact bodyPost_ret (by simp [results, Try.results7, go_sem]) rfl ⟨rfl, rfl⟩
  have t3 : decide (0 ≤ a - d) = false := decide_eq_false q3
  rw [if_neg q3]
  by_cases q4 : b - c ≤ 0
  · have t4 : decide (b - c ≤ 0) = true := decide_eq_true q4
    rw [if_pos q4]
    go_enter Try.func7, Try.ntmps7
    go_wp2_with fail
    refine (unhide HA _).mono ?_
    rintro e W1 ⟨rfl, rfl⟩
    go_wp2_with fail
    refine (unhide HB _).mono ?_
    rintro e W1 ⟨rfl, rfl⟩
    go_wp2_with fail
    refine (unhide HC _).mono ?_
    rintro e W1 ⟨rfl, rfl⟩
    go_wp2_with fail
    refine (unhide HD _).mono ?_
    rintro e W1 ⟨rfl, rfl⟩
    go_wp2_with fail
    exact bodyPost_ret (by simp [results, Try.results7, go_sem]) rfl ⟨rfl, rfl⟩
  have t4 : decide (b - c ≤ 0) = false := decide_eq_false q4
  rw [if_neg q4]
  go_enter Try.func7, Try.ntmps7
  go_wp2_with fail
  refine (unhide HA _).mono ?_
  rintro e W1 ⟨rfl, rfl⟩
  go_wp2_with fail
  refine (unhide HB _).mono ?_
  rintro e W1 ⟨rfl, rfl⟩
  go_wp2_with fail
  refine (unhide HC _).mono ?_
  rintro e W1 ⟨rfl, rfl⟩
  go_wp2_with fail
  refine (unhide HD _).mono ?_
  rintro e W1 ⟨rfl, rfl⟩
  go_wp2_with fail
  exact bodyPost_ret (by simp [results, Try.results7, go_sem]) rfl ⟨rfl, rfl⟩

theorem bad4 (a b c d : Int) : badS [a, b, c, d] = !(szB a && szB b && szB c && szB d) := by
  simp [badS, Bool.not_and, Bool.or_assoc]
set_option maxHeartbeats 1000000 in
/-- the program's -/
theorem fitP_any (a b c d : Int) (w : World) : Calls Try.prog 6 #[.int .i64 a, .int .i64 b, .int .i64 c, .int .i64 d] w fun e w' => e = .returned (fitV a b c d) ∧ Below w.heap.size w w' := by
  have HS := hide (fun (W : World) (g : Nat) (hg : iblk W g 3 [a, b, c, d]) => shas_any (some ⟨g, 0, none⟩) g 0 4 4 [a, b, c, d] W rfl (by omega) (fun _ => ⟨rfl, hg.lt, hg.ints⟩))
  rw [bad4] at HS
  have HN := hide (iblk_new w 3 [a, b, c, d])
  have HBL := hide (ba (Below.refl w.heap.size w) (.cells ([a, b, c, d].map (Value.int .i64)).toArray 3))
  have IX : Hid ((szB a && szB b && szB c && szB d) = true → (0 ≤ a ∧ a ≤ 100000) ∧ (0 ≤ b ∧ b ≤ 100000) ∧ (0 ≤ c ∧ c ≤ 100000) ∧ (0 ≤ d ∧ d ≤ 100000)) := hide (by
    intro h
    simp only [Bool.and_eq_true] at h
    exact ⟨(szB_iff a).1 h.1.1.1, (szB_iff b).1 h.1.1.2, (szB_iff c).1 h.1.2, (szB_iff d).1 h.2⟩)
  have HK := hide (fun W => kind_any (a - d) (b - c) W)
  unfold fitV fitOk
  generalize (szB a && szB b && szB c && szB d) = pa at *
  generalize kindI (a - d) (b - c) = kd at *
  cases pa
  · simp only [Bool.false_and, Bool.false_eq_true, if_false]
    go_enter Try.func6, Try.ntmps6
    go_wp2_with fail
    refine (unhide HS _ _ (unhide HN)).mono ?_
    rintro e W1 ⟨rfl, rfl⟩
    go_wp2_with fail
    exact bodyPost_ret (by simp [results, Try.results6, go_sem]) rfl ⟨rfl, unhide HBL⟩
  obtain ⟨⟨a0, a1⟩, ⟨b0, b1⟩, ⟨c0, c1⟩, ⟨d0, d1⟩⟩ := (unhide IX) rfl
  by_cases q1 : b < a
  · have t1 : decide (b < a) = true := decide_eq_true q1
    rw [if_neg (by simp [t1])]
    go_enter Try.func6, Try.ntmps6
    go_wp2_with fail
    refine (unhide HS _ _ (unhide HN)).mono ?_
    rintro e W1 ⟨rfl, rfl⟩
    go_wp2_with fail
    exact bodyPost_ret (by simp [results, Try.results6, go_sem]) rfl ⟨rfl, unhide HBL⟩
  have t1 : decide (b < a) = false := decide_eq_false q1
  by_cases q2 : d < c
  · have t2 : decide (d < c) = true := decide_eq_true q2
    rw [if_neg (by simp [t2])]
    go_enter Try.func6, Try.ntmps6
    go_wp2_with fail
    refine (unhide HS _ _ (unhide HN)).mono ?_
    rintro e W1 ⟨rfl, rfl⟩
    go_wp2_with fail
    exact bodyPost_ret (by simp [results, Try.results6, go_sem]) rfl ⟨rfl, unhide HBL⟩
  have t2 : decide (d < c) = false := decide_eq_false q2
  rw [if_pos (by simp [t1, t2])]
  go_enter Try.func6, Try.ntmps6
  go_wp2_with fail
  refine (unhide HS _ _ (unhide HN)).mono ?_
  rintro e W1 ⟨rfl, rfl⟩
  go_wp2_with fail
  refine (unhide HK _).mono ?_
  rintro e W2 ⟨rfl, rfl⟩
  go_wp2_with fail
  exact bodyPost_ret (by simp [results, Try.results6, go_sem]) rfl ⟨rfl, unhide HBL⟩
end Go.Proofs.Ytlhpakefalfibaa
