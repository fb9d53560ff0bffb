/-
  What two segments have in common: the same whichever comes first and however their ends stand; on both lines, between the ends.
-/
import Derived.Test.YtmfgpipmkbkggaaPlane
namespace Go.Proofs.Ytmfgpipmkbkggaa

theorem sgn_negate (n : Int) : sgn (-n) = - sgn n := by
  unfold sgn
  split
  · rw [if_neg (by omega), if_pos (by omega)]
    rfl
  · split
    · rw [if_pos (by omega)]
    · rw [if_neg (by omega), if_neg (by omega)]
      rfl
theorem side_cyc (a b c : Pt) : side b c a = side a b c := by simp only [side]; grind
theorem turn_swap (a b c : Pt) : sgn (side b a c) = - sgn (side a b c) := by rw [side_swap, sgn_negate]
theorem turn_cyc (a b c : Pt) : sgn (side b c a) = sgn (side a b c) := by rw [side_cyc]
theorem acr_turn (a b c d : Pt) : acr (sub c d) (sub b a) = acr (sub b a) (sub d c) := by simp only [acr, sub]; grind
theorem lo_comm (a b : Pt) : (if ltp a b then a else b) = (if ltp b a then b else a) := by
  by_cases h : ltp a b = true
  · rw [if_pos h, if_neg (by rw [ltp_asymm _ _ h]; decide)]
  · by_cases h2 : ltp b a = true
    · rw [if_neg h, if_pos h2]
    · rw [if_neg h, if_neg h2]
      exact ltp_total b a (by simpa using h2) (by simpa using h)
theorem hi_comm (a b : Pt) : (if ltp a b then b else a) = (if ltp b a then a else b) := by
  by_cases h : ltp a b = true
  · rw [if_pos h, if_neg (by rw [ltp_asymm _ _ h]; decide)]
  · by_cases h2 : ltp b a = true
    · rw [if_neg h, if_pos h2]
    · rw [if_neg h, if_neg h2]
      exact ltp_total a b (by simpa using h) (by simpa using h2)
theorem meet_comm (a b c d : Pt) : meet c d a b = meet a b c d := by
  unfold meet
  rw [hi_comm c a, lo_comm b d]
theorem along_turn (a b c d : Pt) : along d c a b = along a b c d := by
  unfold along
  rw [meet_comm, lo_comm c d, hi_comm c d]
/-- whichever comes first, and however their ends stand -/
theorem cross_turn (a b c d : Pt) : cross d c a b = cross a b c d := by
  unfold cross
  simp only
  rw [acr_turn a b c d, side_u d a b, side_s d c a, side_u a c d, side_s a b c]
  have e1 : side d c a = - side c d a := side_swap c d a
  have e2 := side_t a b c d
  have nx := num_x a b c d
  have ny := num_y a b c d
  rw [e1]
  generalize acr (sub b a) (sub d c) = w at *
  generalize side a b c = s at *
  generalize side c d a = u at *
  rw [e2]
  by_cases h0 : w = 0
  · rw [if_pos h0, if_pos h0, along_turn]
    subst h0
    by_cases h : s ≠ 0 ∨ u ≠ 0
    · rw [if_pos h, if_pos (by omega)]
    · rw [if_neg h, if_neg (by omega)]
  · rw [if_neg h0, if_neg h0]
    rcases Int.lt_or_gt_of_ne h0 with hn | hp
    · rw [sgn_neg hn]
      have ex : d.1 * (w * -1) + (c.1 - d.1) * ((s + w) * -1) = a.1 * (w * -1) + (b.1 - a.1) * (u * -1) := by grind
      have ey : d.2 * (w * -1) + (c.2 - d.2) * ((s + w) * -1) = a.2 * (w * -1) + (b.2 - a.2) * (u * -1) := by grind
      rw [ex, ey]
      by_cases hc : (0 ≤ u * -1 ∧ u * -1 ≤ w * -1) ∧ (0 ≤ -s * -1 ∧ -s * -1 ≤ w * -1)
      · rw [if_pos hc, if_pos (by omega)]
      · rw [if_neg hc, if_neg (by omega)]
    · rw [sgn_pos hp]
      have ex : d.1 * (w * 1) + (c.1 - d.1) * ((s + w) * 1) = a.1 * (w * 1) + (b.1 - a.1) * (u * 1) := by grind
      have ey : d.2 * (w * 1) + (c.2 - d.2) * ((s + w) * 1) = a.2 * (w * 1) + (b.2 - a.2) * (u * 1) := by grind
      rw [ex, ey]
      by_cases hc : (0 ≤ u * 1 ∧ u * 1 ≤ w * 1) ∧ (0 ≤ -s * 1 ∧ -s * 1 ≤ w * 1)
      · rw [if_pos hc, if_pos (by omega)]
      · rw [if_neg hc, if_neg (by omega)]

/-- a spot lies on the line of two points, and between them -/
def onL (a b : Pt) (q : Sp) : Prop := (b.1 - a.1) * (q.2.1 - a.2 * q.2.2) = (b.2 - a.2) * (q.1 - a.1 * q.2.2)
def btw (a b : Pt) (q : Sp) : Prop := min a.1 b.1 * q.2.2 ≤ q.1 ∧ q.1 ≤ max a.1 b.1 * q.2.2 ∧ min a.2 b.2 * q.2.2 ≤ q.2.1 ∧ q.2.1 ≤ max a.2 b.2 * q.2.2
def good (a b c d : Pt) (q : Sp) : Prop := 1 ≤ q.2.2 ∧ onL a b q ∧ onL c d q ∧ btw a b q ∧ btw c d q
theorem on_whole {a b p : Pt} (h : side a b p = 0) : onL a b (whole p) := by
  simp only [onL, whole, side] at *
  grind
theorem btw_whole {a b p : Pt} (h : onB a b p = true) : btw a b (whole p) := by
  simp only [onB, decide_eq_true_eq] at h
  simp only [btw, whole]
  omega
theorem onB_swap (a b p : Pt) : onB b a p = onB a b p := by
  simp only [onB]
  congr 1
  rw [Int.min_comm, Int.max_comm, Int.min_comm b.2, Int.max_comm b.2]
/-- between two ends, whichever is lower -/
theorem on_lohi {a b p : Pt} (h : side a b p = 0) (h1 : ltp p (if ltp b a then b else a) = false) (h2 : ltp (if ltp b a then a else b) p = false) : onB a b p = true := by
  by_cases hb : ltp b a = true
  · rw [if_pos hb] at h1 h2
    rw [← onB_swap]
    exact on_of b a p (by rw [side_swap, h]; rfl) h1 h2
  · rw [if_neg hb] at h1 h2
    exact on_of a b p h h1 h2
theorem max_le {a c p : Pt} (h : ltp p (if ltp a c then c else a) = false) : ltp p a = false ∧ ltp p c = false := by
  by_cases hc : ltp a c = true
  · rw [if_pos hc] at h
    refine ⟨?_, h⟩
    exact ltp_ntrans p c a h (ltp_asymm _ _ hc)
  · rw [if_neg hc] at h
    exact ⟨h, ltp_ntrans p a c h (by simpa using hc)⟩
theorem le_min {b d p : Pt} (h : ltp (if ltp d b then d else b) p = false) : ltp b p = false ∧ ltp d p = false := by
  by_cases hc : ltp d b = true
  · rw [if_pos hc] at h
    exact ⟨ltp_ntrans b d p (ltp_asymm _ _ hc) h, h⟩
  · rw [if_neg hc] at h
    exact ⟨h, ltp_ntrans d b p (by simpa using hc) h⟩
theorem along_good {a b c d : Pt} (hs : side a b c = 0) (ht : side a b d = 0) (hu : side c d a = 0) (hv : side c d b = 0) : ∀ q ∈ along a b c d, good a b c d q := by
  have sa : side a b a = 0 := by simp only [side]; grind
  have sb : side a b b = 0 := by simp only [side]; grind
  have sc : side c d c = 0 := by simp only [side]; grind
  have sd : side c d d = 0 := by simp only [side]; grind
  have key : ∀ p : Pt, (p = a ∨ p = b ∨ p = c ∨ p = d) → ltp p (if ltp b a then b else a) = false → ltp (if ltp b a then a else b) p = false → ltp p (if ltp d c then d else c) = false → ltp (if ltp d c then c else d) p = false → good a b c d (whole p) := by
    intro p hp h1 h2 h3 h4
    have e1 : side a b p = 0 := by rcases hp with rfl | rfl | rfl | rfl <;> assumption
    have e2 : side c d p = 0 := by rcases hp with rfl | rfl | rfl | rfl <;> assumption
    exact ⟨Int.le_refl _, on_whole e1, on_whole e2, btw_whole (on_lohi e1 h1 h2), btw_whole (on_lohi e2 h3 h4)⟩
  intro q hq
  unfold along meet at hq
  simp only at hq
  have pf : ∀ x y z t : Pt, ((if ltp x y then y else x) = z ∨ True) := fun _ _ _ _ => .inr trivial
  have one : ∀ (x y : Pt) (c : Bool), (if c then x else y) = x ∨ (if c then x else y) = y := fun x y c => by cases c <;> simp
  have ml : (if ltp b a then b else a) = a ∨ (if ltp b a then b else a) = b := by cases ltp b a <;> simp
  have mh : (if ltp b a then a else b) = a ∨ (if ltp b a then a else b) = b := by cases ltp b a <;> simp
  have nl : (if ltp d c then d else c) = c ∨ (if ltp d c then d else c) = d := by cases ltp d c <;> simp
  have nh : (if ltp d c then c else d) = c ∨ (if ltp d c then c else d) = d := by cases ltp d c <;> simp
  have lh : ltp (if ltp b a then a else b) (if ltp b a then b else a) = false := by
    by_cases hb : ltp b a = true
    · rw [if_pos hb, if_pos hb]; exact ltp_asymm _ _ hb
    · rw [if_neg hb, if_neg hb]; simpa using hb
  have lk : ltp (if ltp d c then c else d) (if ltp d c then d else c) = false := by
    by_cases hb : ltp d c = true
    · rw [if_pos hb, if_pos hb]; exact ltp_asymm _ _ hb
    · rw [if_neg hb, if_neg hb]; simpa using hb
  generalize (if ltp b a then b else a) = A at *
  generalize (if ltp b a then a else b) = B at *
  generalize (if ltp d c then d else c) = C at *
  generalize (if ltp d c then c else d) = D at *
  have fm : (if ltp A C then C else A) = A ∨ (if ltp A C then C else A) = C := by cases ltp A C <;> simp
  have tm : (if ltp D B then D else B) = B ∨ (if ltp D B then D else B) = D := by cases ltp D B <;> simp
  have fA := max_le (ltp_irrefl (if ltp A C then C else A))
  have tB := le_min (ltp_irrefl (if ltp D B then D else B))
  generalize (if ltp A C then C else A) = F at *
  generalize (if ltp D B then D else B) = T at *
  have go : ltp T F = false → good a b c d (whole F) ∧ good a b c d (whole T) := by
    intro hTF
    have m4 : ∀ p, (p = A ∨ p = C) → (p = a ∨ p = b ∨ p = c ∨ p = d) := by
      intro p h
      rcases h with rfl | rfl
      · rcases ml with h | h <;> simp [h]
      · rcases nl with h | h <;> simp [h]
    have m5 : ∀ p, (p = B ∨ p = D) → (p = a ∨ p = b ∨ p = c ∨ p = d) := by
      intro p h
      rcases h with rfl | rfl
      · rcases mh with h | h <;> simp [h]
      · rcases nh with h | h <;> simp [h]
    refine ⟨key F (m4 F fm) fA.1 (ltp_ntrans _ _ _ tB.1 hTF) fA.2 (ltp_ntrans _ _ _ tB.2 hTF), key T (m5 T tm) (ltp_ntrans _ _ _ hTF fA.1) tB.1 (ltp_ntrans _ _ _ hTF fA.2) tB.2⟩
  by_cases hft : F = T
  · rw [if_pos hft] at hq
    rw [List.mem_singleton] at hq
    subst hq
    exact (go (by rw [← hft]; exact ltp_irrefl F)).1
  · rw [if_neg hft] at hq
    by_cases hlt : ltp F T = true
    · rw [if_pos hlt] at hq
      have g := go (ltp_asymm _ _ hlt)
      simp only [List.mem_cons, List.not_mem_nil, or_false] at hq
      rcases hq with rfl | rfl
      · exact g.1
      · exact g.2
    · rw [if_neg hlt] at hq
      cases hq
theorem red_parts (x y d : Int) (hd : 0 < d) : ∃ g : Int, 0 < g ∧ x = (red x y d).1 * g ∧ y = (red x y d).2.1 * g ∧ d = (red x y d).2.2 * g := by
  have hg : 0 < redG x y d := Nat.gcd_pos_of_pos_right _ (by omega)
  have h1 : (redG x y d : Int) ∣ x := Int.ofNat_dvd_left.2 (Nat.dvd_trans (Nat.gcd_dvd_left _ _) (Nat.gcd_dvd_left _ _))
  have h2 : (redG x y d : Int) ∣ y := Int.ofNat_dvd_left.2 (Nat.dvd_trans (Nat.gcd_dvd_left _ _) (Nat.gcd_dvd_right _ _))
  have h3 : (redG x y d : Int) ∣ d := Int.ofNat_dvd_left.2 (Nat.gcd_dvd_right _ _)
  exact ⟨redG x y d, by omega, (Int.tdiv_mul_cancel h1).symm, (Int.tdiv_mul_cancel h2).symm, (Int.tdiv_mul_cancel h3).symm⟩
theorem mul_cancel {a b g : Int} (hg : 0 < g) (h : a * g ≤ b * g) : a ≤ b := Int.le_of_mul_le_mul_right h hg
theorem mul_cancel_eq {a b g : Int} (hg : 0 < g) (h : a * g = b * g) : a = b := Int.eq_of_mul_eq_mul_right (by omega) h
theorem seg_btw {a1 b1 D u X : Int} (h0 : 0 ≤ u) (h1 : u ≤ D) (hX : X = a1 * D + (b1 - a1) * u) : min a1 b1 * D ≤ X ∧ X ≤ max a1 b1 * D := by
  rcases Int.le_total a1 b1 with h | h
  · rw [Int.min_eq_left h, Int.max_eq_right h]
    have e1 : X - a1 * D = (b1 - a1) * u := by grind
    have e2 : b1 * D - X = (b1 - a1) * (D - u) := by grind
    have n1 := Int.mul_nonneg (show 0 ≤ b1 - a1 by omega) h0
    have n2 := Int.mul_nonneg (show 0 ≤ b1 - a1 by omega) (show 0 ≤ D - u by omega)
    omega
  · rw [Int.min_eq_right h, Int.max_eq_left h]
    have e1 : a1 * D - X = (a1 - b1) * u := by grind
    have e2 : X - b1 * D = (a1 - b1) * (D - u) := by grind
    have n1 := Int.mul_nonneg (show 0 ≤ a1 - b1 by omega) h0
    have n2 := Int.mul_nonneg (show 0 ≤ a1 - b1 by omega) (show 0 ≤ D - u by omega)
    omega
theorem red_on {a b : Pt} {X Y D u : Int} (hD : 0 < D) (h0 : 0 ≤ u) (h1 : u ≤ D) (hX : X = a.1 * D + (b.1 - a.1) * u) (hY : Y = a.2 * D + (b.2 - a.2) * u) : onL a b (red X Y D) ∧ btw a b (red X Y D) := by
  obtain ⟨g, hg, e1, e2, e3⟩ := red_parts X Y D hD
  have bx := seg_btw h0 h1 hX
  have bY := seg_btw h0 h1 hY
  generalize red X Y D = q at *
  obtain ⟨x, y, dd⟩ := q
  simp only at e1 e2 e3
  have hX' : X - a.1 * D = (b.1 - a.1) * u := by omega
  have hY' : Y - a.2 * D = (b.2 - a.2) * u := by omega
  refine ⟨?_, ?_⟩
  · unfold onL
    simp only
    apply mul_cancel_eq hg
    have l : (b.1 - a.1) * (y - a.2 * dd) * g = (b.1 - a.1) * (Y - a.2 * D) := by rw [e2, e3]; grind
    have r : (b.2 - a.2) * (x - a.1 * dd) * g = (b.2 - a.2) * (X - a.1 * D) := by rw [e1, e3]; grind
    rw [l, r, hX', hY']
    grind
  · unfold btw
    simp only
    have m : ∀ z : Int, z * dd * g = z * D := fun z => by rw [Int.mul_assoc, ← e3]
    refine ⟨mul_cancel hg ?_, mul_cancel hg ?_, mul_cancel hg ?_, mul_cancel hg ?_⟩
    · rw [m, ← e1]; exact bx.1
    · rw [m, ← e1]; exact bx.2
    · rw [m, ← e2]; exact bY.1
    · rw [m, ← e2]; exact bY.2
theorem red_one_le {X Y D : Int} (hD : 0 < D) : 1 ≤ (red X Y D).2.2 := by
  obtain ⟨g, hg, _, _, e3⟩ := red_parts X Y D hD
  generalize (red X Y D).2.2 = dd at *
  rcases Int.lt_or_le 0 dd with h | h
  · omega
  · have := Int.mul_nonneg (show 0 ≤ -dd by omega) (show 0 ≤ g by omega)
    have e : -dd * g = -(dd * g) := by grind
    omega
/-- each spot is one of both segments -/
theorem cross_good (a b c d : Pt) : ∀ q ∈ cross a b c d, good a b c d q := by
  intro q hq
  unfold cross at hq
  simp only at hq
  rw [side_u a c d, side_s a b c] at hq
  have et := side_t a b c d
  have ev := side_v a b c d
  have nx := num_x a b c d
  have ny := num_y a b c d
  generalize hw : acr (sub b a) (sub d c) = w at *
  by_cases h0 : w = 0
  · rw [if_pos h0] at hq
    by_cases hz : side a b c ≠ 0 ∨ side c d a ≠ 0
    · rw [if_pos hz] at hq
      cases hq
    · rw [if_neg hz] at hq
      exact along_good (by omega) (by omega) (by omega) (by omega) q hq
  · rw [if_neg h0] at hq
    generalize side a b c = s at *
    generalize side c d a = u at *
    rcases Int.lt_or_gt_of_ne h0 with hn | hp
    · rw [sgn_neg hn] at hq
      by_cases hc : (0 ≤ u * -1 ∧ u * -1 ≤ w * -1) ∧ (0 ≤ -s * -1 ∧ -s * -1 ≤ w * -1)
      · rw [if_pos hc, List.mem_singleton] at hq
        subst hq
        have r1 := red_on (a := a) (b := b) (D := w * -1) (u := u * -1) (by omega) hc.1.1 hc.1.2 rfl rfl
        have ex : a.1 * (w * -1) + (b.1 - a.1) * (u * -1) = c.1 * (w * -1) + (d.1 - c.1) * (-s * -1) := by grind
        have ey : a.2 * (w * -1) + (b.2 - a.2) * (u * -1) = c.2 * (w * -1) + (d.2 - c.2) * (-s * -1) := by grind
        have r2 := red_on (a := c) (b := d) (D := w * -1) (u := -s * -1) (by omega) hc.2.1 hc.2.2 ex ey
        exact ⟨red_one_le (by omega), r1.1, r2.1, r1.2, r2.2⟩
      · rw [if_neg hc] at hq
        cases hq
    · rw [sgn_pos hp] at hq
      by_cases hc : (0 ≤ u * 1 ∧ u * 1 ≤ w * 1) ∧ (0 ≤ -s * 1 ∧ -s * 1 ≤ w * 1)
      · rw [if_pos hc, List.mem_singleton] at hq
        subst hq
        have r1 := red_on (a := a) (b := b) (D := w * 1) (u := u * 1) (by omega) hc.1.1 hc.1.2 rfl rfl
        have ex : a.1 * (w * 1) + (b.1 - a.1) * (u * 1) = c.1 * (w * 1) + (d.1 - c.1) * (-s * 1) := by grind
        have ey : a.2 * (w * 1) + (b.2 - a.2) * (u * 1) = c.2 * (w * 1) + (d.2 - c.2) * (-s * 1) := by grind
        have r2 := red_on (a := c) (b := d) (D := w * 1) (u := -s * 1) (by omega) hc.2.1 hc.2.2 ex ey
        exact ⟨red_one_le (by omega), r1.1, r2.1, r1.2, r2.2⟩
      · rw [if_neg hc] at hq
        cases hq
theorem sgn_three (n : Int) : sgn n = 1 ∧ 0 < n ∨ sgn n = -1 ∧ n < 0 ∨ sgn n = 0 ∧ n = 0 := by
  rcases Int.lt_trichotomy n 0 with h | h | h
  · exact .inr (.inl ⟨sgn_neg h, h⟩)
  · exact .inr (.inr ⟨by rw [h]; rfl, h⟩)
  · exact .inl ⟨sgn_pos h, h⟩
theorem sgn_mul_le (a b : Int) : sgn a * sgn b ≤ 0 ↔ ¬ ((0 < a ∧ 0 < b) ∨ (a < 0 ∧ b < 0)) := by
  have := sgn_mul_pos a b
  omega
/-- where there is none: one segment has both ends on one side, or they lie apart on one line -/
theorem cross_none (a b c d : Pt) (h : (cross a b c d).length = 0) (h1 : sgn (side a b c) * sgn (side a b d) ≤ 0) (h2 : sgn (side c d a) * sgn (side c d b) ≤ 0) : sgn (side a b c) = 0 ∧ sgn (side a b d) = 0 := by
  unfold cross at h
  simp only at h
  rw [side_u a c d, side_s a b c] at h
  have et := side_t a b c d
  have ev := side_v a b c d
  rw [sgn_mul_le] at h1 h2
  generalize hw : acr (sub b a) (sub d c) = w at *
  generalize side a b c = s at *
  generalize side c d a = u at *
  by_cases h0 : w = 0
  · have : s = 0 := by omega
    rw [et, this, h0]
    exact ⟨rfl, rfl⟩
  · rw [if_neg h0] at h
    exfalso
    rcases Int.lt_or_gt_of_ne h0 with hn | hp
    · rw [sgn_neg hn, if_pos (by omega)] at h
      cases h
    · rw [sgn_pos hp, if_pos (by omega)] at h
      cases h
theorem cross_two (a b c d : Pt) (h : 2 ≤ (cross a b c d).length) : sgn (side a b c) = 0 ∧ sgn (side a b d) = 0 := by
  unfold cross at h
  simp only at h
  rw [side_u a c d, side_s a b c] at h
  have et := side_t a b c d
  generalize hw : acr (sub b a) (sub d c) = w at *
  generalize side a b c = s at *
  generalize side c d a = u at *
  by_cases h0 : w = 0
  · rw [if_pos h0] at h
    by_cases hz : s ≠ 0 ∨ u ≠ 0
    · rw [if_pos hz] at h
      simp at h
    · have : s = 0 := by omega
      rw [et, this, h0]
      exact ⟨rfl, rfl⟩
  · rw [if_neg h0] at h
    exfalso
    revert h
    split
    · simp
    · simp
end Go.Proofs.Ytmfgpipmkbkggaa
