/-
  The plane in plain numbers: sides, signs, what two segments have in common told in two ways that are one.
-/
import Derived.ProofKit
import Derived.IntWalk
namespace Go.Proofs.Ytimkinpbimangaa

abbrev Pt := Int × Int
/-- the point is right -/
def ptOk (p : Pt) : Bool := decide (-100000 ≤ p.1 ∧ p.1 ≤ 100000 ∧ -100000 ≤ p.2 ∧ p.2 ≤ 100000)
/-- the sign of a number -/
def sgn (n : Int) : Int := if 0 < n then 1 else if n < 0 then -1 else 0
/-- how far b leads to the left of a -/
def acr (a b : Pt) : Int := a.1 * b.2 - a.2 * b.1
def sub (p q : Pt) : Pt := (p.1 - q.1, p.2 - q.2)
/-- twice the signed area of three points -/
def side (a b c : Pt) : Int := (b.1 - a.1) * (c.2 - a.2) - (b.2 - a.2) * (c.1 - a.1)
/-- the order of points: by X, then by Y -/
def ltp (a b : Pt) : Bool := decide (a.1 < b.1 ∨ a.1 = b.1 ∧ a.2 < b.2)
/-- a point lies in the box of two -/
def onB (a b p : Pt) : Bool := decide (min a.1 b.1 ≤ p.1 ∧ p.1 ≤ max a.1 b.1 ∧ min a.2 b.2 ≤ p.2 ∧ p.2 ≤ max a.2 b.2)

theorem sgn_pos {n : Int} (h : 0 < n) : sgn n = 1 := by simp [sgn, h]
theorem sgn_neg {n : Int} (h : n < 0) : sgn n = -1 := by unfold sgn; rw [if_neg (by omega), if_pos h]
theorem sgn_zero : sgn 0 = 0 := rfl
theorem sgn_mul_pos (a b : Int) : 0 < sgn a * sgn b ↔ (0 < a ∧ 0 < b) ∨ (a < 0 ∧ b < 0) := by
  unfold sgn
  split <;> split <;> (try split) <;> (try split) <;> omega

/-- three numbers are a spot: X, Y, D -/
abbrev Sp := Int × Int × Int
/-- the spot reduced, D above 0 -/
def redG (x y d : Int) : Nat := Nat.gcd (Nat.gcd x.natAbs y.natAbs) d.natAbs
def red (x y d : Int) : Sp := (x.tdiv (redG x y d), y.tdiv (redG x y d), d.tdiv (redG x y d))
/-- the model's spot: its sign turned first -/
def redM (x y d : Int) : Sp := if d < 0 then red (-x) (-y) (-d) else red x y d
def whole (p : Pt) : Sp := (p.1, p.2, 1)

/-- on one line, the ends in order: what is common -/
def meet (a b c d : Pt) : List Sp :=
  let f := if ltp a c then c else a
  let t := if ltp d b then d else b
  if f = t then [whole f] else if ltp f t then [whole f, whole t] else []
/-- on one line -/
def along (a b c d : Pt) : List Sp :=
  meet (if ltp b a then b else a) (if ltp b a then a else b) (if ltp d c then d else c) (if ltp d c then c else d)

/-- what two segments have in common, as the program finds it -/
def cross (a b c d : Pt) : List Sp :=
  let w := acr (sub b a) (sub d c)
  if w = 0 then (if side a b c ≠ 0 ∨ side c d a ≠ 0 then [] else along a b c d)
  else
    let u := acr (sub c a) (sub d c) * sgn w
    let v := acr (sub c a) (sub b a) * sgn w
    if (0 ≤ u ∧ u ≤ w * sgn w) ∧ (0 ≤ v ∧ v ≤ w * sgn w) then
      [red (a.1 * (w * sgn w) + (b.1 - a.1) * u) (a.2 * (w * sgn w) + (b.2 - a.2) * u) (w * sgn w)]
    else []

/-- the model's way along one line, the ends in order -/
def meetM (a b c d : Pt) : List Sp :=
  let f := if ltp a c then c else a
  let t := if ltp d b then d else b
  if f = t then (if onB a b f && onB c d f then [whole f] else []) else if ltp f t then [whole f, whole t] else []
def alongM (a b c d : Pt) : List Sp :=
  meetM (if ltp b a then b else a) (if ltp b a then a else b) (if ltp d c then d else c) (if ltp d c then c else d)
/-- what two segments have in common, as the model finds it -/
def crossM (a b c d : Pt) : List Sp :=
  let s := side a b c
  let t := side a b d
  let u := side c d a
  let v := side c d b
  if s = 0 ∧ t = 0 ∧ u = 0 ∧ v = 0 then alongM a b c d
  else if 0 < sgn s * sgn t ∨ 0 < sgn u * sgn v then []
  else if a = b then (if u = 0 ∧ onB c d a = true then [whole a] else [])
  else if c = d then (if s = 0 ∧ onB a b c = true then [whole c] else [])
  else [redM (c.1 * (s - t) + (d.1 - c.1) * s) (c.2 * (s - t) + (d.2 - c.2) * s) (s - t)]

theorem side_s (a b c : Pt) : acr (sub c a) (sub b a) = - side a b c := by simp only [acr, sub, side]; grind
theorem side_t (a b c d : Pt) : side a b d = side a b c + acr (sub b a) (sub d c) := by simp only [acr, sub, side]; grind
theorem side_u (a c d : Pt) : acr (sub c a) (sub d c) = side c d a := by simp only [acr, sub, side]; grind
theorem side_v (a b c d : Pt) : side c d b = side c d a - acr (sub b a) (sub d c) := by simp only [acr, sub, side]; grind
theorem num_x (a b c d : Pt) : c.1 * acr (sub b a) (sub d c) - (d.1 - c.1) * side a b c = a.1 * acr (sub b a) (sub d c) + (b.1 - a.1) * side c d a := by
  simp only [acr, sub, side]; grind
theorem num_y (a b c d : Pt) : c.2 * acr (sub b a) (sub d c) - (d.2 - c.2) * side a b c = a.2 * acr (sub b a) (sub d c) + (b.2 - a.2) * side c d a := by
  simp only [acr, sub, side]; grind

theorem acr_self_l (b : Pt) (x : Pt) : acr (sub b b) x = 0 := by simp [acr, sub]
theorem acr_self_r (b : Pt) (x : Pt) : acr x (sub b b) = 0 := by simp [acr, sub]
theorem side_swap (a b c : Pt) : side b a c = - side a b c := by simp only [side]; grind

/-- a point of the line between two in their order lies in their box -/
theorem on_of (a b p : Pt) (h : side a b p = 0) (h1 : ltp p a = false) (h2 : ltp b p = false) : onB a b p = true := by
  obtain ⟨a1, a2⟩ := a
  obtain ⟨b1, b2⟩ := b
  obtain ⟨p1, p2⟩ := p
  simp only [ltp, decide_eq_false_iff_not, side, onB, decide_eq_true_eq] at *
  have hx : a1 ≤ p1 := by omega
  have hy : p1 ≤ b1 := by omega
  by_cases hab : a1 = b1
  · omega
  have hpos : 0 < b1 - a1 := by omega
  have e : (b1 - a1) * (p2 - a2) = (b2 - a2) * (p1 - a1) := by omega
  by_cases hb : a2 ≤ b2
  · have k1 : 0 ≤ (b2 - a2) * (p1 - a1) := Int.mul_nonneg (by omega) (by omega)
    have k2 : (b2 - a2) * (p1 - a1) ≤ (b2 - a2) * (b1 - a1) := Int.mul_le_mul_of_nonneg_left (by omega) (by omega)
    have l1 : 0 ≤ p2 - a2 := by
      rw [← e] at k1
      exact Int.le_of_mul_le_mul_left (show (b1 - a1) * 0 ≤ (b1 - a1) * (p2 - a2) by omega) hpos
    have l2 : p2 - a2 ≤ b2 - a2 := by
      rw [← e, Int.mul_comm (b2 - a2)] at k2
      exact Int.le_of_mul_le_mul_left k2 hpos
    omega
  · have k1 : (b2 - a2) * (p1 - a1) ≤ 0 := Int.mul_nonpos_of_nonpos_of_nonneg (by omega) (by omega)
    have k2 : (b2 - a2) * (b1 - a1) ≤ (b2 - a2) * (p1 - a1) := Int.mul_le_mul_of_nonpos_left (by omega) (by omega)
    have l1 : p2 - a2 ≤ 0 := by
      rw [← e] at k1
      have : (b1 - a1) * (p2 - a2) ≤ (b1 - a1) * 0 := by omega
      exact Int.le_of_mul_le_mul_left this hpos
    have l2 : b2 - a2 ≤ p2 - a2 := by
      rw [← e, Int.mul_comm (b2 - a2)] at k2
      exact Int.le_of_mul_le_mul_left k2 hpos
    omega
theorem on_l (a b : Pt) : onB a b a = true := by simp only [onB, decide_eq_true_eq]; omega
theorem on_r (a b : Pt) : onB a b b = true := by simp only [onB, decide_eq_true_eq]; omega
theorem ltp_total (a b : Pt) (h : ltp a b = false) (h2 : ltp b a = false) : a = b := by
  obtain ⟨a1, a2⟩ := a
  obtain ⟨b1, b2⟩ := b
  simp only [ltp, decide_eq_false_iff_not] at h h2
  rw [Prod.mk.injEq]; omega
theorem ltp_irrefl (a : Pt) : ltp a a = false := by simp [ltp]
theorem ltp_trans (a b c : Pt) (h : ltp a b = true) (h2 : ltp b c = true) : ltp a c = true := by
  simp only [ltp, decide_eq_true_eq] at *; omega
theorem ltp_ntrans (a b c : Pt) (h : ltp a b = false) (h2 : ltp b c = false) : ltp a c = false := by
  simp only [ltp, decide_eq_false_iff_not] at *; omega
theorem ltp_asymm (a b : Pt) (h : ltp a b = true) : ltp b a = false := by
  simp only [ltp, decide_eq_true_eq, decide_eq_false_iff_not] at *; omega

theorem meet_one (f t : Pt) (q : Bool) (h : f = t → q = true) : (if f = t then (if q = true then [whole f] else []) else if ltp f t = true then [whole f, whole t] else []) = (if f = t then [whole f] else if ltp f t = true then [whole f, whole t] else []) := by
  by_cases hf : f = t
  · rw [if_pos hf, if_pos hf, if_pos (h hf)]
  · rw [if_neg hf, if_neg hf]
theorem meet_eq (a b c d : Pt) (hs : side a b c = 0) (hu : side c d a = 0) : meetM a b c d = meet a b c d := by
  unfold meetM meet
  refine meet_one _ _ _ fun hf => ?_
  rw [Bool.and_eq_true]
  by_cases hac : ltp a c = true
  · rw [if_pos hac] at hf ⊢
    refine ⟨?_, on_l _ _⟩
    by_cases hdb : ltp d b = true
    · rw [if_pos hdb] at hf
      exact on_of _ _ _ hs (ltp_asymm _ _ hac) (by rw [hf]; exact ltp_asymm _ _ hdb)
    · rw [if_neg hdb] at hf
      rw [hf]; exact on_r _ _
  · rw [if_neg hac] at hf ⊢
    refine ⟨on_l _ _, ?_⟩
    by_cases hdb : ltp d b = true
    · rw [if_pos hdb] at hf
      rw [hf]; exact on_r _ _
    · rw [if_neg hdb] at hf
      exact on_of _ _ _ hu (by simpa using hac) (by rw [hf]; simpa using hdb)
theorem along_eq (a b c d : Pt) (hs : side a b c = 0) (ht : side a b d = 0) (hu : side c d a = 0) (hv : side c d b = 0) : alongM a b c d = along a b c d := by
  unfold alongM along
  have s1 := side_swap a b c
  have s2 := side_swap a b d
  have s3 := side_swap c d a
  have s4 := side_swap c d b
  by_cases hba : ltp b a = true <;> by_cases hdc : ltp d c = true <;> simp only [hba, hdc] <;> exact meet_eq _ _ _ _ (by simp; omega) (by simp; omega)

/-- both ways are one -/
theorem cross_eq (a b c d : Pt) : crossM a b c d = cross a b c d := by
  unfold crossM cross
  have et := side_t a b c d
  have ev := side_v a b c d
  have eu := side_u a c d
  have es := side_s a b c
  have nx := num_x a b c d
  have ny := num_y a b c d
  simp only
  rw [eu, es]
  generalize hw : acr (sub b a) (sub d c) = w at *
  by_cases h0 : w = 0
  · rw [if_pos h0]
    subst h0
    have ha := fun x y => along_eq a b c d x (by omega) y (by omega)
    clear nx ny
    generalize side a b c = s at *
    generalize side c d a = u at *
    generalize side a b d = t at *
    generalize side c d b = v at *
    by_cases hz : s = 0 ∧ u = 0
    · rw [if_pos ⟨hz.1, by omega, hz.2, by omega⟩, if_neg (by rintro (h | h); exact h hz.1; exact h hz.2)]
      exact ha hz.1 hz.2
    · rw [if_neg (show ¬ (s = 0 ∧ t = 0 ∧ u = 0 ∧ v = 0) from fun h => hz ⟨h.1, h.2.2.1⟩), if_pos (show s ≠ 0 ∨ u ≠ 0 by omega), if_pos]
      rw [sgn_mul_pos, sgn_mul_pos]
      omega
  · rw [if_neg h0]
    have hab : a ≠ b := by
      intro h; subst h; rw [acr_self_l] at hw; exact h0 hw.symm
    have hcd : c ≠ d := by
      intro h; subst h; rw [acr_self_r] at hw; exact h0 hw.symm
    rw [if_neg (show ¬ (side a b c = 0 ∧ side a b d = 0 ∧ side c d a = 0 ∧ side c d b = 0) by omega), if_neg hab, if_neg hcd]
    simp only [sgn_mul_pos]
    generalize side a b c = s at *
    generalize side c d a = u at *
    generalize side a b d = t at *
    generalize side c d b = v at *
    have en : s - t = - w := by omega
    rw [en]
    rcases Int.lt_or_gt_of_ne h0 with hn | hp
    · rw [sgn_neg hn]
      by_cases hc : (0 ≤ u * -1 ∧ u * -1 ≤ w * -1) ∧ (0 ≤ -s * -1 ∧ -s * -1 ≤ w * -1)
      · rw [if_pos hc, if_neg (by omega)]
        unfold redM
        rw [if_neg (by omega)]
        have e1 : c.1 * -w + (d.1 - c.1) * s = a.1 * (w * -1) + (b.1 - a.1) * (u * -1) := by grind
        have e2 : c.2 * -w + (d.2 - c.2) * s = a.2 * (w * -1) + (b.2 - a.2) * (u * -1) := by grind
        have e3 : -w = w * -1 := by omega
        rw [e1, e2, e3]
      · rw [if_neg hc, if_pos (by omega)]
    · rw [sgn_pos hp]
      by_cases hc : (0 ≤ u * 1 ∧ u * 1 ≤ w * 1) ∧ (0 ≤ -s * 1 ∧ -s * 1 ≤ w * 1)
      · rw [if_pos hc, if_neg (by omega)]
        unfold redM
        rw [if_pos (by omega)]
        have e1 : -(c.1 * -w + (d.1 - c.1) * s) = a.1 * (w * 1) + (b.1 - a.1) * (u * 1) := by grind
        have e2 : -(c.2 * -w + (d.2 - c.2) * s) = a.2 * (w * 1) + (b.2 - a.2) * (u * 1) := by grind
        have e3 : - -w = w * 1 := by omega
        rw [e1, e2, e3]
      · rw [if_neg hc, if_pos (by omega)]
end Go.Proofs.Ytimkinpbimangaa
