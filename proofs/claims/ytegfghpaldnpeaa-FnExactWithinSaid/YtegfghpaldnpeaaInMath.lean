/-
  Where a point lies of a polygon: the model's way and the program's way of asking it are one.
-/
import Derived.Test.YtegfghpaldnpeaaPoly
namespace Go.Proofs.Ytegfghpaldnpeaa

/-- the side leads in or out, as the model asks it -/
def stepM (a b x : Pt) : Bool := (decide (x.2 < a.2) != decide (x.2 < b.2)) && (decide (0 < side a b x) == decide (a.2 < b.2))
def onS (a b x : Pt) : Bool := decide (side a b x = 0) && onB a b x
def lowY (a b : Pt) : Pt := if b.2 < a.2 then b else a
def highY (a b : Pt) : Pt := if b.2 < a.2 then a else b
/-- .. as the program asks it -/
def stepP (a b x : Pt) : Bool := decide ((lowY a b).2 ≤ x.2) && decide (x.2 < (highY a b).2) && decide (0 < sgn (side (lowY a b) (highY a b) x))
theorem sgn_gt (n : Int) : decide (0 < sgn n) = decide (0 < n) := by
  unfold sgn
  split
  · simp [*]
  · split
    · rename_i h1 h2; simp [h1]
    · rename_i h1 h2; simp [h1]
theorem on_y (a b x : Pt) (hs : side a b x = 0) (h1 : a.2 < b.2) (h2 : a.2 ≤ x.2) (h3 : x.2 ≤ b.2) : onB a b x = true := by
  have e : (b.1 - a.1) * (x.2 - a.2) = (b.2 - a.2) * (x.1 - a.1) := by unfold side at hs; omega
  have hpos : 0 < b.2 - a.2 := by omega
  simp only [onB, decide_eq_true_eq]
  by_cases hb : a.1 ≤ b.1
  · have k1 : 0 ≤ (b.1 - a.1) * (x.2 - a.2) := Int.mul_nonneg (by omega) (by omega)
    have k2 : (b.1 - a.1) * (x.2 - a.2) ≤ (b.1 - a.1) * (b.2 - a.2) := Int.mul_le_mul_of_nonneg_left (by omega) (by omega)
    have l1 : 0 ≤ x.1 - a.1 := by
      rw [e] at k1
      exact Int.le_of_mul_le_mul_left (show (b.2 - a.2) * 0 ≤ (b.2 - a.2) * (x.1 - a.1) by omega) hpos
    have l2 : x.1 - a.1 ≤ b.1 - a.1 := by
      rw [e, Int.mul_comm (b.1 - a.1)] at k2
      exact Int.le_of_mul_le_mul_left k2 hpos
    omega
  · have k1 : (b.1 - a.1) * (x.2 - a.2) ≤ 0 := Int.mul_nonpos_of_nonpos_of_nonneg (by omega) (by omega)
    have k2 : (b.1 - a.1) * (b.2 - a.2) ≤ (b.1 - a.1) * (x.2 - a.2) := Int.mul_le_mul_of_nonpos_left (by omega) (by omega)
    have l1 : x.1 - a.1 ≤ 0 := by
      rw [e] at k1
      exact Int.le_of_mul_le_mul_left (show (b.2 - a.2) * (x.1 - a.1) ≤ (b.2 - a.2) * 0 by omega) hpos
    have l2 : b.1 - a.1 ≤ x.1 - a.1 := by
      rw [e, Int.mul_comm (b.1 - a.1)] at k2
      exact Int.le_of_mul_le_mul_left k2 hpos
    omega
theorem onB_swap (a b x : Pt) : onB a b x = onB b a x := by
  unfold onB
  congr 1
  rw [eq_iff_iff]
  constructor <;> (rintro ⟨h1, h2, h3, h4⟩; exact ⟨by omega, by omega, by omega, by omega⟩)
theorem step_eq (a b x : Pt) (h : onS a b x = false) : stepM a b x = stepP a b x := by
  unfold stepM stepP
  rw [sgn_gt]
  have hsw := side_swap a b x
  unfold onS at h
  by_cases hab : a.2 < b.2
  · have e1 : lowY a b = a := by unfold lowY; rw [if_neg (by omega)]
    have e2 : highY a b = b := by unfold highY; rw [if_neg (by omega)]
    rw [e1, e2]
    by_cases c1 : x.2 < a.2
    · have : x.2 < b.2 := by omega
      simp [c1, this]
      intro h; omega
    · by_cases c2 : x.2 < b.2
      · simp [c1, c2, hab]
        intro _; omega
      · simp [c1, c2]
  · by_cases hba : b.2 < a.2
    · have e1 : lowY a b = b := by unfold lowY; rw [if_pos hba]
      have e2 : highY a b = a := by unfold highY; rw [if_pos hba]
      rw [e1, e2, hsw]
      by_cases c1 : x.2 < b.2
      · have : x.2 < a.2 := by omega
        simp [c1, this]
        intro h; omega
      · by_cases c2 : x.2 < a.2
        · have hz : side a b x ≠ 0 := by
            intro hz
            have := on_y b a x (by omega) hba (by omega) (by omega)
            rw [onB_swap, this] at h
            simp [hz] at h
          have c3 : b.2 ≤ x.2 := by omega
          have c4 : ¬ a.2 < b.2 := hab
          simp only [c1, c2, c3, c4, decide_true, decide_false, Bool.true_and]
          by_cases hp : 0 < side a b x
          · rw [decide_eq_true hp, decide_eq_false (show ¬ 0 < - side a b x by omega)]; rfl
          · rw [decide_eq_false hp, decide_eq_true (show 0 < - side a b x by omega)]; rfl
        · simp [c1, c2]
    · have e : a.2 = b.2 := by omega
      have e1 : lowY a b = a := by unfold lowY; rw [if_neg (by omega)]
      have e2 : highY a b = b := by unfold highY; rw [if_neg (by omega)]
      rw [e1, e2, e]
      have : (decide (b.2 ≤ x.2) && decide (x.2 < b.2)) = false := by
        by_cases c : b.2 ≤ x.2
        · have : ¬ x.2 < b.2 := by omega
          simp [this]
        · simp [c]
      rw [this]
      simp
theorem between_of_on (a b x : Pt) (hs : side a b x = 0) (ho : onB a b x = true) (hab : ltp b a = false) : ltp x a = false ∧ ltp b x = false := by
  obtain ⟨a1, a2⟩ := a
  obtain ⟨b1, b2⟩ := b
  obtain ⟨x1, x2⟩ := x
  simp only [ltp, decide_eq_false_iff_not, side, onB, decide_eq_true_eq] at *
  by_cases h1 : a1 = b1
  · subst h1
    omega
  · have h2 : a1 < b1 := by omega
    by_cases e1 : x1 = a1
    · subst e1
      have : (b1 - x1) * (x2 - a2) = 0 := by
        have : (b2 - a2) * (x1 - x1) = 0 := by simp
        omega
      rcases Int.mul_eq_zero.1 this with h | h <;> omega
    · by_cases e2 : x1 = b1
      · subst e2
        have e3 : (x1 - a1) * (x2 - a2) = (b2 - a2) * (x1 - a1) := by omega
        rw [Int.mul_comm (b2 - a2)] at e3
        have := Int.eq_of_mul_eq_mul_left (by omega) e3
        omega
      · omega
theorem along_pt (a b x : Pt) (hs : side a b x = 0) : decide (0 < (along a b x x).length) = onB a b x := by
  have key : ∀ a b : Pt, side a b x = 0 → ltp b a = false → decide (0 < (meet a b x x).length) = onB a b x := by
    intro a b hs hab
    cases ho : onB a b x with
    | true =>
      obtain ⟨h1, h2⟩ := between_of_on a b x hs ho hab
      unfold meet
      simp only
      have e1 : (if ltp a x = true then x else a) = x := by
        split
        · rfl
        · rename_i h; exact ltp_total _ _ (by simpa using h) h1
      have e2 : (if ltp x b = true then x else b) = x := by
        split
        · rfl
        · rename_i h; exact ltp_total _ _ h2 (by simpa using h)
      rw [e1, e2, if_pos rfl]
      simp
    | false =>
      have hn : ¬ (ltp x a = false ∧ ltp b x = false) := by
        rintro ⟨h1, h2⟩
        rw [on_of a b x hs h1 h2] at ho
        cases ho
      unfold meet
      simp only
      by_cases h1 : ltp x a = true
      · have e1 : ltp a x = false := ltp_asymm _ _ h1
        rw [e1]
        simp only [Bool.false_eq_true, if_false]
        have h3 : ltp x b = true := by
          cases hb : ltp x b
          · have := ltp_ntrans x b a hb hab
            rw [this] at h1; cases h1
          · rfl
        rw [h3]
        simp only [if_true]
        rw [if_neg (by intro h; rw [h] at h1; rw [ltp_irrefl] at h1; cases h1), e1]
        simp
      · have h1' : ltp x a = false := by simpa using h1
        have h2 : ltp b x = true := by
          cases hb : ltp b x
          · exact absurd ⟨h1', hb⟩ hn
          · rfl
        have e3 : ltp x b = false := ltp_asymm _ _ h2
        rw [e3]
        simp only [Bool.false_eq_true, if_false]
        have h3 : ltp a x = true := by
          cases hb : ltp a x
          · have := ltp_ntrans b a x hab hb
            rw [this] at h2; cases h2
          · rfl
        rw [h3]
        simp only [if_true]
        rw [if_neg (by intro h; rw [h] at h2; rw [ltp_irrefl] at h2; cases h2), e3]
        simp
  unfold along
  rw [ltp_irrefl]
  simp only [Bool.false_eq_true, if_false]
  have hsw := side_swap a b x
  cases hba : ltp b a with
  | false => simpa using key a b hs hba
  | true =>
    have := key b a (by omega) (ltp_asymm _ _ hba)
    rw [onB_swap] at this
    simpa using this
theorem on_eq (a b x : Pt) : decide (0 < (cross a b x x).length) = onS a b x := by
  unfold cross onS
  simp only
  rw [acr_self_r, if_pos rfl]
  have h2 : side x x a = 0 := by simp only [side]; grind
  by_cases hs : side a b x = 0
  · rw [if_neg (by rintro (h | h); exact h hs; exact h h2), along_pt a b x hs]
    simp [hs]
  · rw [if_pos (.inl hs)]
    simp [hs]
/-- the way through the sides -/
def insTo (L : List Pt) (n : Nat) (x : Pt) : Nat → Bool
  | 0 => false
  | i + 1 => insTo L n x i != stepM (ptAt L i) (ptAt L ((i + 1) % n)) x
def onI (L : List Pt) (n : Nat) (x : Pt) (i : Nat) : Bool := onS (ptAt L i) (ptAt L ((i + 1) % n)) x
def within (L : List Pt) (n : Nat) (x : Pt) : Int := match firstI (onI L n x) n with
  | some _ => 0
  | none => if insTo L n x n = true then 1 else -1
end Go.Proofs.Ytegfghpaldnpeaa
