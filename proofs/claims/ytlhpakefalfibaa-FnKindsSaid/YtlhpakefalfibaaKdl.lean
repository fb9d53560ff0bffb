/-
  FnKinds: the walk.
-/
import Derived.Test.YtlhpakefalfibaaKdD
namespace Go.Proofs.Ytlhpakefalfibaa
open Go.ChangeShapes Go.WideShapes Go.ChangeAt Go.RowKit
set_option linter.unusedVariables false
set_option linter.unusedSimpArgs false

/-- an answer: right, or none -/
theorem fitV_two (a b c d : Int) : fitV a b c d = .tuple #[.int .i64 0, .int .i64 0, .int .i64 0, .int .i64 1] ∨
    (fitV a b c d = .tuple #[.int .i64 (kindI (a - d) (b - c)), .int .i64 (a - d), .int .i64 (b - c), .int .i64 0] ∧ (0 ≤ a ∧ a ≤ 100000) ∧ (0 ≤ b ∧ b ≤ 100000) ∧ (0 ≤ c ∧ c ≤ 100000) ∧ (0 ≤ d ∧ d ≤ 100000) ∧ a ≤ b ∧ c ≤ d) := by
  unfold fitV
  by_cases h : fitOk a b c d = true
  · rw [if_pos h]
    unfold fitOk at h
    simp only [Bool.and_eq_true, Bool.not_eq_true', decide_eq_false_iff_not] at h
    obtain ⟨⟨⟨⟨⟨h1, h2⟩, h3⟩, h4⟩, h5⟩, h6⟩ := h
    exact .inr ⟨rfl, (szB_iff a).1 h1, (szB_iff b).1 h2, (szB_iff c).1 h3, (szB_iff d).1 h4, by omega, by omega⟩
  · rw [if_neg h]
    exact .inl rfl

set_option maxHeartbeats 2000000 in
set_option maxRecDepth 100000 in
theorem fnKinds_core (a : Option Addr) (len cap : Nat) (a2 : Option Addr) (len2 cap2 B : Nat) (zs2 : List Int) (w : World) (hl : len ≤ 1048576) (hl2 : len2 ≤ 1048576)
    (HD : Hid (Calls Try.prog 5 #[.slice a len cap] w fun e w' => (∃ x0 x1 x2 x3 : Int, e = .returned (.tuple #[.int .i64 x0, .int .i64 x1, .int .i64 x2, .int .i64 x3])) ∧ Below w.heap.size w w'))
    (HA : Hid (∀ (i n : Int) (W : World), 0 ≤ i ∧ i ≤ 100 → 1 ≤ n ∧ n ≤ 1000000 → Below w.heap.size w W → Calls Try.prog 8 #[.slice a2 len2 cap2, .int .i64 i, .int .i64 n] W fun e w' => ∃ r : Int, e = .returned (.int .i64 r) ∧ 0 ≤ r ∧ r < n ∧ Below W.heap.size W w')) :
    Calls Try.prog 3 #[.slice a len cap, .slice a2 len2 cap2] w fun e w' => e = .returned (.bool true) ∧ Below w.heap.size w w' := by
  go_enter Try.func3, Try.ntmps3
  go_wp2_with fail
  refine (unhide HD).mono ?_
  rintro e W1 ⟨⟨x0, x1, x2, x3, rfl⟩, hb⟩
  have HB1 := hide hb
  clear hb
  have HM := hide (fun W => fitM_any x0 x1 x2 x3 W)
  have HP := hide (fun W => fitP_any x0 x1 x2 x3 W)
  rcases fitV_two x0 x1 x2 x3 with hv | ⟨hv, ⟨a0, a1⟩, ⟨b0, b1⟩, ⟨c0, c1⟩, ⟨d0, d1⟩, hab, hcd⟩
  · rw [hv] at HM HP
    clear hv
    go_wp2_with fail
    refine (unhide HP _).mono ?_
    rintro e W2 ⟨rfl, hb⟩
    have HB2 := hide (bc (unhide HB1) hb)
    clear hb
    go_wp2_with fail
    refine (unhide HM _).mono ?_
    rintro e W3 ⟨rfl, rfl⟩
    go_wp2_with fail
    go_ret
    exact ⟨rfl, unhide HB2⟩
  · rw [hv] at HM HP
    clear hv
    have hk : (kindI (x0 - x3) (x1 - x2) = 1 ∧ x3 ≤ x0) ∨ (kindI (x0 - x3) (x1 - x2) = 2 ∧ x0 < x3 ∧ x1 ≤ x2) ∨ (kindI (x0 - x3) (x1 - x2) = 3 ∧ x0 < x3 ∧ x2 < x1) := by
      unfold kindI
      split
      · exact .inl ⟨rfl, by omega⟩
      · split
        · exact .inr (.inl ⟨rfl, by omega, by omega⟩)
        · exact .inr (.inr ⟨rfl, by omega, by omega⟩)
    generalize kindI (x0 - x3) (x1 - x2) = kd at *
    have HKD := hide hk
    clear hk
    have HAB := hide hab
    have HCD := hide hcd
    go_wp2_with fail
    refine (unhide HP _).mono ?_
    rintro e W2 ⟨rfl, hb⟩
    have HB2 := hide (bc (unhide HB1) hb)
    clear hb
    go_wp2_with fail
    refine (unhide HM _).mono ?_
    rintro e W3 ⟨rfl, rfl⟩
    go_wp2_with fail
    refine (unhide HA 0 (x1 - x0 + 1) _ (by omega) (by omega) (unhide HB2)).mono ?_
    rintro e W4 ⟨r1, rfl, r10, r11, hb⟩
    have HB4 := hide (bc (unhide HB2) hb)
    clear hb
    go_wp2_with fail
    refine (unhide HA 1 (x3 - x2 + 1) _ (by omega) (by omega) (unhide HB4)).mono ?_
    rintro e W5 ⟨r2, rfl, r20, r21, hb⟩
    have HB5 := hide (bc (unhide HB4) hb)
    clear hb
    have g1 : decide (x0 + r1 - x2 - r2 < x0 - x3) = false := decide_eq_false (by omega)
    have g2 : decide (x1 - x2 < x0 + r1 - x2 - r2) = false := decide_eq_false (by omega)
    have g3 : (x0 - x3 != x0 - x3) = false := by simp
    have g4 : (x1 - x2 != x1 - x2) = false := by simp
    rcases unhide HKD with ⟨rfl, e1⟩ | ⟨rfl, e1, e2⟩ | ⟨rfl, e1, e2⟩
    · have t1 : decide (x3 ≤ x0) = true := decide_eq_true e1
      go_wp2_with fail
      go_ret
      exact ⟨rfl, unhide HB5⟩
    · have t1 : decide (x0 < x3) = true := decide_eq_true e1
      have t2 : decide (x1 ≤ x2) = true := decide_eq_true e2
      go_wp2_with fail
      go_ret
      exact ⟨rfl, unhide HB5⟩
    · have t1 : decide (x0 < x3) = true := decide_eq_true e1
      have t2 : decide (x2 < x1) = true := decide_eq_true e2
      go_wp2_with fail
      go_ret
      exact ⟨rfl, unhide HB5⟩
end Go.Proofs.Ytlhpakefalfibaa
