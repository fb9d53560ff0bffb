/-
  What two segments have in common: the same whichever comes first and however their ends stand; on both lines, between the ends.
-/
import Derived.Test.YtimkinpbimangaaPlane
namespace Go.Proofs.Ytimkinpbimangaa

theorem sgn_negate (n : Int) : sgn (-n) = - sgn n := by
  unfold sgn
  split
  · rw [if_neg (by omega), if_pos (by omega)]
    rfl
  · split
    · rw [if_pos (by omega)]
    · rw [if_neg (by omega), if_neg (by omega)]
      rfl
theorem side_cyc (a b c : Pt) : side b c a = side a b c := by simp only [side]; grind
theorem turn_swap (a b c : Pt) : sgn (side b a c) = - sgn (side a b c) := by rw [side_swap, sgn_negate]
theorem turn_cyc (a b c : Pt) : sgn (side b c a) = sgn (side a b c) := by rw [side_cyc]
theorem acr_turn (a b c d : Pt) : acr (sub c d) (sub b a) = acr (sub b a) (sub d c) := by simp only [acr, sub]; grind
theorem lo_comm (a b : Pt) : (if ltp a b then a else b) = (if ltp b a then b else a) := by
  by_cases h : ltp a b = true
  · rw [if_pos h, if_neg (by rw [ltp_asymm _ _ h]; decide)]
  · by_cases h2 : ltp b a = true
    · rw [if_neg h, if_pos h2]
    · rw [if_neg h, if_neg h2]
      exact ltp_total b a (by simpa using h2) (by simpa using h)
theorem hi_comm (a b : Pt) : (if ltp a b then b else a) = (if ltp b a then a else b) := by
  by_cases h : ltp a b = true
  · rw [if_pos h, if_neg (by rw [ltp_asymm _ _ h]; decide)]
  · by_cases h2 : ltp b a = true
    · rw [if_neg h, if_pos h2]
    · rw [if_neg h, if_neg h2]
      exact ltp_total a b (by simpa using h) (by simpa using h2)
theorem meet_comm (a b c d : Pt) : meet c d a b = meet a b c d := by
  unfold meet
  rw [hi_comm c a, lo_comm b d]
theorem along_turn (a b c d : Pt) : along d c a b = along a b c d := by
  unfold along
  rw [meet_comm, lo_comm c d, hi_comm c d]
/-- whichever comes first, and however their ends stand -/
theorem cross_turn (a b c d : Pt) : cross d c a b = cross a b c d := by
  unfold cross
  simp only
  rw [acr_turn a b c d, side_u d a b, side_s d c a, side_u a c d, side_s a b c]
  have e1 : side d c a = - side c d a := side_swap c d a
  have e2 := side_t a b c d
  have nx := num_x a b c d
  have ny := num_y a b c d
  rw [e1]
  generalize acr (sub b a) (sub d c) = w at *
  generalize side a b c = s at *
  generalize side c d a = u at *
  rw [e2]
  by_cases h0 : w = 0
  · rw [if_pos h0, if_pos h0, along_turn]
    subst h0
    by_cases h : s ≠ 0 ∨ u ≠ 0
    · rw [if_pos h, if_pos (by omega)]
    · rw [if_neg h, if_neg (by omega)]
  · rw [if_neg h0, if_neg h0]
    rcases Int.lt_or_gt_of_ne h0 with hn | hp
    · rw [sgn_neg hn]
      have ex : d.1 * (w * -1) + (c.1 - d.1) * ((s + w) * -1) = a.1 * (w * -1) + (b.1 - a.1) * (u * -1) := by grind
      have ey : d.2 * (w * -1) + (c.2 - d.2) * ((s + w) * -1) = a.2 * (w * -1) + (b.2 - a.2) * (u * -1) := by grind
      rw [ex, ey]
      by_cases hc : (0 ≤ u * -1 ∧ u * -1 ≤ w * -1) ∧ (0 ≤ -s * -1 ∧ -s * -1 ≤ w * -1)
      · rw [if_pos hc, if_pos (by omega)]
      · rw [if_neg hc, if_neg (by omega)]
    · rw [sgn_pos hp]
      have ex : d.1 * (w * 1) + (c.1 - d.1) * ((s + w) * 1) = a.1 * (w * 1) + (b.1 - a.1) * (u * 1) := by grind
      have ey : d.2 * (w * 1) + (c.2 - d.2) * ((s + w) * 1) = a.2 * (w * 1) + (b.2 - a.2) * (u * 1) := by grind
      rw [ex, ey]
      by_cases hc : (0 ≤ u * 1 ∧ u * 1 ≤ w * 1) ∧ (0 ≤ -s * 1 ∧ -s * 1 ≤ w * 1)
      · rw [if_pos hc, if_pos (by omega)]
      · rw [if_neg hc, if_neg (by omega)]

theorem cross_two (a b c d : Pt) (h : 2 ≤ (cross a b c d).length) : sgn (side a b c) = 0 ∧ sgn (side a b d) = 0 := by
  unfold cross at h
  simp only at h
  rw [side_u a c d, side_s a b c] at h
  have et := side_t a b c d
  generalize hw : acr (sub b a) (sub d c) = w at *
  generalize side a b c = s at *
  generalize side c d a = u at *
  by_cases h0 : w = 0
  · rw [if_pos h0] at h
    by_cases hz : s ≠ 0 ∨ u ≠ 0
    · rw [if_pos hz] at h
      simp at h
    · have : s = 0 := by omega
      rw [et, this, h0]
      exact ⟨rfl, rfl⟩
  · rw [if_neg h0] at h
    exfalso
    revert h
    split
    · simp
    · simp
end Go.Proofs.Ytimkinpbimangaa
