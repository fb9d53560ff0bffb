/-
  What is likely: bounds that are farther off say no more.
-/
import Derived.Test.YtlanpmdekbjgeaaChMath
namespace Go.Proofs.Ytlanpmdekbjgeaa
set_option linter.unusedVariables false
set_option linter.unusedSimpArgs false

def half (q x : Int) : Prop := 0 ≤ x ∧ q ≤ x * x
instance (q x : Int) : Decidable (half q x) := inferInstanceAs (Decidable (_ ∧ _))
def lkl (m q low high : Int) : Bool := decide (half q (m - 2 * low) ∧ half q (2 * high - m))
def clampTo (K x : Int) : Int := max (-K) (min x K)
theorem clamp_cases (K x : Int) (hK : 0 ≤ K) : (x < -K ∧ clampTo K x = -K) ∨ (K < x ∧ clampTo K x = K) ∨ (-K ≤ x ∧ x ≤ K ∧ clampTo K x = x) := by
  unfold clampTo
  omega
theorem big_sq {q x : Int} (hq : q ≤ 1600000000000) (hx : 16000000 ≤ x) : q ≤ x * x := by
  have := Int.mul_le_mul hx hx (by omega) (by omega)
  omega
theorem half_low {K m q low : Int} (hK : 16000000 ≤ K) (m0 : -16000000 ≤ m) (m1 : m ≤ 16000000) (hq : q ≤ 1600000000000) : half q (m - 2 * clampTo K low) ↔ half q (m - 2 * low) := by
  unfold half
  rcases clamp_cases K low (by omega) with ⟨h, e⟩ | ⟨h, e⟩ | ⟨_, _, e⟩ <;> rw [e]
  · exact ⟨fun _ => ⟨by omega, big_sq hq (by omega)⟩, fun _ => ⟨by omega, big_sq hq (by omega)⟩⟩
  · exact ⟨fun h => absurd h.1 (by omega), fun h => absurd h.1 (by omega)⟩
theorem half_high {K m q high : Int} (hK : 16000000 ≤ K) (m0 : -16000000 ≤ m) (m1 : m ≤ 16000000) (hq : q ≤ 1600000000000) : half q (2 * clampTo K high - m) ↔ half q (2 * high - m) := by
  unfold half
  rcases clamp_cases K high (by omega) with ⟨h, e⟩ | ⟨h, e⟩ | ⟨_, _, e⟩ <;> rw [e]
  · exact ⟨fun h => absurd h.1 (by omega), fun h => absurd h.1 (by omega)⟩
  · exact ⟨fun _ => ⟨by omega, big_sq hq (by omega)⟩, fun _ => ⟨by omega, big_sq hq (by omega)⟩⟩
theorem lkl_model {K m q low high : Int} (hK : 16000000 ≤ K) (m0 : -16000000 ≤ m) (m1 : m ≤ 16000000) (hq : q ≤ 1600000000000) :
    lkl m q low high = decide (half q (m - 2 * clampTo K low) ∧ half q (2 * clampTo K high - m)) := by
  unfold lkl
  rw [Bool.eq_iff_iff, decide_eq_true_eq, decide_eq_true_eq, half_low hK m0 m1 hq, half_high hK m0 m1 hq]
theorem half_min (q x y : Int) : (half q x ∧ half q y) ↔ half q (min x y) := by
  unfold half
  rcases Int.le_total x y with h | h
  · rw [Int.min_eq_left h]
    refine ⟨fun hh => hh.1, fun ⟨h1, h2⟩ => ⟨⟨h1, h2⟩, by omega, ?_⟩⟩
    have := Int.mul_le_mul h h h1 (by omega)
    omega
  · rw [Int.min_eq_right h]
    refine ⟨fun hh => hh.2, fun ⟨h1, h2⟩ => ⟨⟨by omega, ?_⟩, h1, h2⟩⟩
    have := Int.mul_le_mul h h h1 (by omega)
    omega
theorem lkl_prog {K m q low high : Int} (hK : 16000000 ≤ K) (m0 : -16000000 ≤ m) (m1 : m ≤ 16000000) (hq : q ≤ 1600000000000) :
    lkl m q low high = decide (half q (min (m - 2 * clampTo K low) (2 * clampTo K high - m))) := by
  rw [lkl_model hK m0 m1 hq, Bool.eq_iff_iff, decide_eq_true_eq, decide_eq_true_eq, half_min]
noncomputable def likB (ls : List Lk) (low high : Int) : Bool := rightB ls && lkl (chL ls + chM ls) (chQ ls) low high
end Go.Proofs.Ytlanpmdekbjgeaa
