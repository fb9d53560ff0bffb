/-
  Quotients, comparisons, conversions of floating numbers by what they are worth.
-/
import Derived.Test.YtgocgcnpgmamiaaFlErr
import Derived.Test.YtgocgcnpgmamiaaSwLf
namespace Go.Proofs.Ytgocgcnpgmamiaa
open Go.ChangeShapes Go.WideShapes Go.ChangeAt Go.RowKit
set_option linter.unusedVariables false
set_option linter.unusedSimpArgs false

theorem p2_dig (k : FloatKind) : 1 ≤ e1 k * p2 ((k.format.fractionBits + 2 : Nat) : Int) := by
  rw [p2_nat]
  cases k
  · have : FloatKind.f32.format.fractionBits = 23 := rfl
    rw [this]
    show 1 ≤ (1 / 10000000 : Rat) * ((2 ^ 25 : Nat) : Rat)
    have : ((2 ^ 25 : Nat) : Rat) = 33554432 := rfl
    rw [this]
    grind
  · have : FloatKind.f64.format.fractionBits = 52 := rfl
    rw [this]
    show 1 ≤ (1 / 1000000000000000 : Rat) * ((2 ^ 54 : Nat) : Rat)
    have : ((2 ^ 54 : Nat) : Rat) = 18014398509481984 := rfl
    rw [this]
    grind
theorem e1_one (k : FloatKind) : e1 k ≤ 1 := by cases k <;> simp only [e1] <;> grind
theorem quo_val {k : FloatKind} {x y : Nat} (hx : isNum k x) (hy : isNum k y) (hy0 : val k y ≠ 0) (M : Rat) (h1 : val k x / val k y ≤ M) (h2 : -(val k x / val k y) ≤ M) (hM : 2 * M ≤ p2 (top k)) : ∃ r, floatBits .quo k x y = some r ∧ Nr k r (val k x / val k y) (3 * (e1 k * M) + e2) := by
  obtain ⟨s, m, i, ha⟩ := hx
  obtain ⟨t, n, j, hb⟩ := hy
  have hn : n ≠ 0 := by
    intro hn
    subst hn
    apply hy0
    unfold val
    rw [hb]
    simp only [dval]
    grind
  have hV : val k x / val k y = sg (s ^^ t) * (((m : Rat) * p2 i) / ((n : Rat) * p2 j)) := by
    have hn0 : (0 : Rat) < (n : Rat) := by exact_mod_cast Nat.pos_of_ne_zero hn
    have hd := Rat.mul_pos hn0 (p2_pos j)
    have h3 : ((m : Rat) * p2 i) / ((n : Rat) * p2 j) * ((n : Rat) * p2 j) = (m : Rat) * p2 i := Rat.div_mul_cancel (by grind)
    have hvy : val k y = sg t * ((n : Rat) * p2 j) := by unfold val; rw [hb]; rfl
    have hvx : val k x = sg s * ((m : Rat) * p2 i) := by unfold val; rw [ha]; rfl
    have h4 : val k x / val k y * val k y = val k x := Rat.div_mul_cancel hy0
    generalize ((m : Rat) * p2 i) / ((n : Rat) * p2 j) = Q at *
    generalize hz : val k x / val k y = Z at *
    rw [hvy, hvx, ← h3] at h4
    generalize (n : Rat) * p2 j = D at *
    rw [sg_mul]
    have ht : sg t * sg t = 1 := by cases t <;> simp only [sg] <;> grind
    have h5 : (Z - sg s * sg t * Q) * D = 0 := by
      have h6 : sg t * (Z * (sg t * D)) = sg t * (sg s * (Q * D)) := by rw [h4]
      grind
    rcases Rat.mul_eq_zero.1 h5 with h6 | h6 <;> grind
  obtain ⟨P, hP0, hP1, hP2, hd1, hd2⟩ := quo_dat (k.format.fractionBits + 2) m n i j hn (by omega)
  have hA0 : 0 ≤ ((m : Rat) * p2 i) / ((n : Rat) * p2 j) := by
    have hn0 : (0 : Rat) < (n : Rat) := by exact_mod_cast Nat.pos_of_ne_zero hn
    have hd := Rat.mul_pos hn0 (p2_pos j)
    have hnum : 0 ≤ (m : Rat) * p2 i := Rat.mul_nonneg (by exact_mod_cast Nat.zero_le m) (Rat.le_of_lt (p2_pos i))
    rw [Rat.div_def]
    exact Rat.mul_nonneg hnum (Rat.le_of_lt (Rat.inv_pos.2 hd))
  have hAM : ((m : Rat) * p2 i) / ((n : Rat) * p2 j) ≤ M := by
    rw [hV] at h1 h2
    cases hst : (s ^^ t) <;> rw [hst] at h1 h2 <;> simp only [sg] at h1 h2 <;> grind
  have hPe : P ≤ e1 k * (((m : Rat) * p2 i) / ((n : Rat) * p2 j)) := by
    by_cases hm : m = 0
    · rw [hP2 hm]
      exact Rat.mul_nonneg (e1_pos k) hA0
    · have h3 := Rat.mul_le_mul_of_nonneg_left (hP1 hm) (e1_pos k)
      have h4 := Rat.mul_le_mul_of_nonneg_left (p2_dig k) hP0
      grind
  rw [hV] at h1 h2 ⊢
  generalize hAA : ((m : Rat) * p2 i) / ((n : Rat) * p2 j) = A at *
  have hb1 := Rat.mul_le_mul_of_nonneg_left hAM (e1_pos k)
  have hb2 := Rat.mul_le_mul_of_nonneg_right (e1_one k) hA0
  refine ⟨k.format.write (.number (s ^^ t) (2 * ((m <<< (k.format.fractionBits + 2 + n.log2 - m.log2)) / n) + ((m <<< (k.format.fractionBits + 2 + n.log2 - m.log2)) % n != 0).toNat) (i - j - ((k.format.fractionBits + 2 + n.log2 - m.log2 : Nat) : Int) - 1)), ?_, ?_⟩
  · simp only [floatBits, Ieee.Format.div, ha, hb, Ieee.Datum.quotient]
    rw [if_neg hn]
    rfl
  · obtain ⟨hn1, d, hv, e3, e4⟩ := near_num k (s ^^ t) (2 * ((m <<< (k.format.fractionBits + 2 + n.log2 - m.log2)) / n) + ((m <<< (k.format.fractionBits + 2 + n.log2 - m.log2)) % n != 0).toNat) (i - j - ((k.format.fractionBits + 2 + n.log2 - m.log2 : Nat) : Int) - 1) (by grind)
    refine ⟨hn1, ?_, ?_⟩
    · rw [hv]
      generalize ((2 * ((m <<< (k.format.fractionBits + 2 + n.log2 - m.log2)) / n) + ((m <<< (k.format.fractionBits + 2 + n.log2 - m.log2)) % n != 0).toNat : Nat) : Rat) * p2 (i - j - ((k.format.fractionBits + 2 + n.log2 - m.log2 : Nat) : Int) - 1) = A' at *
      have hA' : A' ≤ 2 * M := by grind
      have hb3 := Rat.mul_le_mul_of_nonneg_left hA' (e1_pos k)
      cases hst : (s ^^ t) <;> simp only [sg] <;> grind
    · rw [hv]
      generalize ((2 * ((m <<< (k.format.fractionBits + 2 + n.log2 - m.log2)) / n) + ((m <<< (k.format.fractionBits + 2 + n.log2 - m.log2)) % n != 0).toNat : Nat) : Rat) * p2 (i - j - ((k.format.fractionBits + 2 + n.log2 - m.log2 : Nat) : Int) - 1) = A' at *
      have hA' : A' ≤ 2 * M := by grind
      have hb3 := Rat.mul_le_mul_of_nonneg_left hA' (e1_pos k)
      cases hst : (s ^^ t) <;> simp only [sg] <;> grind
/-- comparisons are those of what numbers are worth -/
theorem order_val {k : FloatKind} {x y : Nat} (hx : isNum k x) (hy : isNum k y) : k.format.order x y = some (if val k x < val k y then .lt else if val k x = val k y then .eq else .gt) := by
  obtain ⟨s, m, i, ha⟩ := hx
  obtain ⟨t, n, j, hb⟩ := hy
  have h1 := signed_val s m i (min i j) (Int.min_le_left _ _)
  have h2 := signed_val t n j (min i j) (Int.min_le_right _ _)
  have vx : val k x = ((Ieee.signed s m (i - min i j).toNat : Int) : Rat) * p2 (min i j) := by rw [h1]; unfold val; rw [ha]; rfl
  have vy : val k y = ((Ieee.signed t n (j - min i j).toNat : Int) : Rat) * p2 (min i j) := by rw [h2]; unfold val; rw [hb]; rfl
  rw [vx, vy]
  unfold Ieee.Format.order
  rw [ha, hb]
  simp only [Ieee.Datum.order, Option.some.injEq]
  clear h1 h2 vx vy
  generalize Ieee.signed s m (i - min i j).toNat = p
  generalize Ieee.signed t n (j - min i j).toNat = q
  have hp := p2_pos (min i j)
  have c1 : (p : Rat) * p2 (min i j) < (q : Rat) * p2 (min i j) ↔ p < q := (Rat.mul_lt_mul_right hp).trans Rat.intCast_lt_intCast
  have c2 : (p : Rat) * p2 (min i j) = (q : Rat) * p2 (min i j) ↔ p = q := by
    constructor
    · intro h
      have h5 : ((p : Rat) - (q : Rat)) * p2 (min i j) = 0 := by grind
      rcases Rat.mul_eq_zero.1 h5 with h6 | h6
      · have h7 : (p : Rat) = (q : Rat) := by grind
        exact_mod_cast h7
      · grind
    · intro h; rw [h]
  by_cases hlt : p < q
  · rw [if_pos (c1.2 hlt), Int.compare_eq_lt]
    exact hlt
  · rw [if_neg (fun h => hlt (c1.1 h))]
    by_cases he : p = q
    · rw [if_pos (c2.2 he), Int.compare_eq_eq]
      exact he
    · rw [if_neg (fun h => he (c2.1 h)), Int.compare_eq_gt]
      omega
theorem neg_num {x : Nat} (hx : isNum .f64 x) : isNum .f64 (Op.negFloat .f64 x) ∧ val .f64 (Op.negFloat .f64 x) = - val .f64 x := by
  have h : Op.negFloat .f64 x % FloatKind.f64.format.signWeight = x % FloatKind.f64.format.signWeight := by
    show (x ^^^ 2 ^ 63) % 2 ^ 63 = x % 2 ^ 63
    rw [Nat.xor_mod_two_pow, Nat.mod_self, Nat.xor_zero]
  have h2 : (Op.negFloat .f64 x / FloatKind.f64.format.signWeight % 2 == 1) = !(x / FloatKind.f64.format.signWeight % 2 == 1) := by
    show ((x ^^^ 2 ^ 63) / 2 ^ 63 % 2 == 1) = !(x / 2 ^ 63 % 2 == 1)
    rw [← Nat.shiftRight_eq_div_pow, ← Nat.shiftRight_eq_div_pow, Nat.shiftRight_xor_distrib]
    rw [show 2 ^ 63 >>> 63 = 1 from rfl]
    have hx2 : (x >>> 63 ^^^ 1) % 2 ^ 1 = (x >>> 63 % 2 ^ 1) ^^^ (1 % 2 ^ 1) := Nat.xor_mod_two_pow
    rw [show (2 : Nat) ^ 1 = 2 from rfl] at hx2
    rw [hx2]
    have : x >>> 63 % 2 = 0 ∨ x >>> 63 % 2 = 1 := by omega
    rcases this with h | h <;> rw [h] <;> rfl
  obtain ⟨s, m, e, ha⟩ := hx
  have hr : FloatKind.f64.format.read (Op.negFloat .f64 x) = .number (!s) m e := by
    unfold Ieee.Format.read at ha ⊢
    simp only [h, h2] at ha ⊢
    split at ha
    · rename_i c1; rw [if_pos c1]; cases ha; rfl
    · rename_i c1
      rw [if_neg c1]
      split at ha
      · rename_i c2; rw [if_pos c2]; cases ha; rfl
      · split at ha <;> cases ha
  refine ⟨⟨_, _, _, hr⟩, ?_⟩
  unfold val
  rw [hr, ha]
  simp only [dval, sg_not]
  grind
end Go.Proofs.Ytgocgcnpgmamiaa
