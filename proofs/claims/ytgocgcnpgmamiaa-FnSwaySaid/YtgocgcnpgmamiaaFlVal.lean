/-
  What a floating number is worth, and what the nearest one is.
-/
import Derived.Test.YtgocgcnpgmamiaaFlNum
namespace Go.Proofs.Ytgocgcnpgmamiaa
open Go.ChangeShapes Go.WideShapes Go.ChangeAt Go.RowKit
set_option linter.unusedVariables false
set_option linter.unusedSimpArgs false

/-- a power of two -/
def p2 (e : Int) : Rat := (2 : Rat) ^ e
theorem p2_add (a b : Int) : p2 (a + b) = p2 a * p2 b := Rat.zpow_add (by decide) a b
theorem p2_pos (a : Int) : 0 < p2 a := Rat.zpow_pos (by decide)
theorem p2_nat (n : Nat) : p2 (n : Int) = ((2 ^ n : Nat) : Rat) := by
  unfold p2
  rw [Rat.zpow_natCast]
  induction n with
  | zero => rfl
  | succ n ih => rw [Rat.pow_succ, ih, Nat.pow_succ]; simp
theorem p2_sub (a b : Int) : p2 (a - b) * p2 b = p2 a := by rw [← p2_add]; congr 1; omega
theorem p2_le {a b : Int} (h : a ≤ b) : p2 a ≤ p2 b := by
  obtain ⟨n, hn⟩ := Int.le.dest h
  rw [← hn, p2_add, p2_nat]
  have h1 : (1 : Rat) ≤ ((2 ^ n : Nat) : Rat) := by
    have : 1 ≤ 2 ^ n := Nat.one_le_two_pow
    exact_mod_cast this
  have := Rat.mul_le_mul_of_nonneg_left h1 (Rat.le_of_lt (p2_pos a))
  grind
/-- the sign's factor -/
def sg (s : Bool) : Rat := if s then -1 else 1
theorem sg_mul (s t : Bool) : sg (s ^^ t) = sg s * sg t := by cases s <;> cases t <;> simp [sg] <;> grind
theorem sg_not (s : Bool) : sg (!s) = - sg s := by cases s <;> simp [sg]
def dval : Ieee.Datum → Rat
  | .number s m e => sg s * ((m : Rat) * p2 e)
  | _ => 0
def val (k : FloatKind) (x : Nat) : Rat := dval (k.format.read x)

/-- cutting digits off: to the nearest -/
theorem cut_near (neg : Bool) (n drop : Nat) : 2 * (Ieee.Toward.even.cut neg n drop * 2 ^ drop) ≤ 2 * n + 2 ^ drop ∧ 2 * n ≤ 2 * (Ieee.Toward.even.cut neg n drop * 2 ^ drop) + 2 ^ drop := by
  unfold Ieee.Toward.cut
  dsimp only
  by_cases hd : drop ≤ n.log2 + 2
  · rw [Nat.min_eq_left hd, Nat.one_shiftLeft]
    have hp : 0 < 2 ^ drop := Nat.two_pow_pos _
    have hdm := Nat.div_add_mod n (2 ^ drop)
    have hr := Nat.mod_lt n hp
    generalize hq : n / 2 ^ drop = q at *
    generalize hrr : n % 2 ^ drop = r at *
    generalize 2 ^ drop = g at *
    rw [Nat.mul_comm] at hdm
    cases hb : (decide (g < 2 * r) || (g == 2 * r && q % 2 == 1)) with
    | true =>
      have h2 : g ≤ 2 * r := by
        simp only [Bool.or_eq_true, Bool.and_eq_true, decide_eq_true_eq, beq_iff_eq] at hb
        omega
      simp only [Bool.toNat_true, Nat.add_mul]
      omega
    | false =>
      have h2 : 2 * r ≤ g := by
        simp only [Bool.or_eq_false_iff, decide_eq_false_iff_not] at hb
        omega
      simp only [Bool.toNat_false, Nat.add_zero]
      omega
  · have hd' : n.log2 + 2 < drop := by omega
    rw [Nat.min_eq_right (by omega), Nat.one_shiftLeft]
    have hn : n < 2 ^ (n.log2 + 1) := Nat.lt_log2_self
    have e1 : 2 ^ (n.log2 + 2) = 2 * 2 ^ (n.log2 + 1) := by rw [Nat.pow_succ]; omega
    have hle : 2 ^ (n.log2 + 2) ≤ 2 ^ drop := Nat.pow_le_pow_right (by omega) (by omega)
    rw [Nat.div_eq_of_lt (by omega), Nat.mod_eq_of_lt (by omega)]
    have hb : (decide (2 ^ (n.log2 + 2) < 2 * n) || (2 ^ (n.log2 + 2) == 2 * n && 0 % 2 == 1)) = false := by
      rw [decide_eq_false (by omega)]
      simp
    rw [hb]
    simp only [Bool.toNat_false]
    omega
/-- no digit is cut off -/
theorem cut_none (neg : Bool) (n : Nat) : Ieee.Toward.even.cut neg n 0 = n := by
  unfold Ieee.Toward.cut
  simp [Nat.mod_one]
/-- the last digit's place that is kept -/
def lst (f : Ieee.Format) (mag : Nat) (place : Int) : Int := max (place + mag.log2 - f.fractionBits) f.leastPlace
/-- how many of them -/
def kpt (f : Ieee.Format) (neg : Bool) (mag : Nat) (place : Int) : Nat := Ieee.Toward.even.cut neg (mag <<< (place - lst f mag place).toNat) (lst f mag place - place).toNat
theorem kpt_err (f : Ieee.Format) (neg : Bool) (mag : Nat) (place : Int) :
    2 * ((kpt f neg mag place : Rat) * p2 (lst f mag place)) ≤ 2 * ((mag : Rat) * p2 place) + p2 (lst f mag place) ∧ 2 * ((mag : Rat) * p2 place) ≤ 2 * ((kpt f neg mag place : Rat) * p2 (lst f mag place)) + p2 (lst f mag place) := by
  unfold kpt
  generalize hl : lst f mag place = l
  by_cases h : l ≤ place
  · rw [show (l - place).toNat = 0 by omega, cut_none, Nat.shiftLeft_eq]
    have e : p2 place = ((2 ^ (place - l).toNat : Nat) : Rat) * p2 l := by
      rw [← p2_nat, ← p2_add]
      congr 1
      omega
    rw [e]
    have := p2_pos l
    have e2 : ((mag * 2 ^ (place - l).toNat : Nat) : Rat) = (mag : Rat) * ((2 ^ (place - l).toNat : Nat) : Rat) := by simp
    rw [e2]
    grind
  · rw [show (place - l).toNat = 0 by omega, Nat.shiftLeft_zero]
    obtain ⟨h1, h2⟩ := cut_near neg mag (l - place).toNat
    generalize Ieee.Toward.even.cut neg mag (l - place).toNat = c at *
    have e : p2 l = ((2 ^ (l - place).toNat : Nat) : Rat) * p2 place := by
      rw [← p2_nat, ← p2_add]
      congr 1
      omega
    rw [e]
    have hp := p2_pos place
    generalize 2 ^ (l - place).toNat = g at *
    have h1' : 2 * ((c : Rat) * (g : Rat)) ≤ 2 * (mag : Rat) + (g : Rat) := by exact_mod_cast h1
    have h2' : 2 * (mag : Rat) ≤ 2 * ((c : Rat) * (g : Rat)) + (g : Rat) := by exact_mod_cast h2
    have h3 := Rat.mul_le_mul_of_nonneg_right h1' (Rat.le_of_lt hp)
    have h4 := Rat.mul_le_mul_of_nonneg_right h2' (Rat.le_of_lt hp)
    grind

theorem kpt_le (f : Ieee.Format) (neg : Bool) (mag : Nat) (place : Int) : kpt f neg mag place ≤ 2 * f.binade := by
  have hm : mag < 2 ^ (mag.log2 + 1) := Nat.lt_log2_self
  have hb : 2 * f.binade = 2 ^ (f.fractionBits + 1) := by unfold Ieee.Format.binade; rw [Nat.pow_succ]; omega
  rw [hb]
  unfold kpt
  have hl : place + mag.log2 - f.fractionBits ≤ lst f mag place := Int.le_max_left _ _
  generalize lst f mag place = l at *
  by_cases h : l ≤ place
  · rw [show (l - place).toNat = 0 by omega, cut_none, Nat.shiftLeft_eq]
    have h1 : mag * 2 ^ (place - l).toNat < 2 ^ (mag.log2 + 1) * 2 ^ (place - l).toNat := Nat.mul_lt_mul_of_pos_right hm (Nat.two_pow_pos _)
    rw [← Nat.pow_add] at h1
    exact Nat.le_of_lt (Nat.lt_of_lt_of_le h1 (Nat.pow_le_pow_right (by omega) (by omega)))
  · rw [show (place - l).toNat = 0 by omega, Nat.shiftLeft_zero]
    obtain ⟨h1, _⟩ := cut_near neg mag (l - place).toNat
    generalize Ieee.Toward.even.cut neg mag (l - place).toNat = c at *
    have h2 : 2 ^ (mag.log2 + 1) ≤ 2 ^ (f.fractionBits + 1) * 2 ^ (l - place).toNat := by
      rw [← Nat.pow_add]
      exact Nat.pow_le_pow_right (by omega) (by omega)
    have hg : 0 < 2 ^ (l - place).toNat := Nat.two_pow_pos _
    generalize 2 ^ (l - place).toNat = g at *
    generalize 2 ^ (f.fractionBits + 1) = b at *
    by_cases hc : c ≤ b
    · exact hc
    · exfalso
      have h3 : (b + 1) * g ≤ c * g := Nat.mul_le_mul_right g (by omega)
      rw [Nat.add_mul] at h3
      omega
theorem kpt_ge (f : Ieee.Format) (neg : Bool) (mag : Nat) (place : Int) (hm0 : mag ≠ 0) (hq : f.leastPlace < lst f mag place) : f.binade ≤ kpt f neg mag place := by
  have hm : 2 ^ mag.log2 ≤ mag := Nat.log2_self_le hm0
  have hl : lst f mag place = place + mag.log2 - f.fractionBits := by unfold lst at *; omega
  unfold kpt Ieee.Format.binade
  generalize lst f mag place = l at *
  by_cases h : l ≤ place
  · rw [show (l - place).toNat = 0 by omega, cut_none, Nat.shiftLeft_eq]
    have h1 : 2 ^ mag.log2 * 2 ^ (place - l).toNat ≤ mag * 2 ^ (place - l).toNat := Nat.mul_le_mul_right _ hm
    rw [← Nat.pow_add] at h1
    exact Nat.le_trans (Nat.pow_le_pow_right (by omega) (by omega)) h1
  · rw [show (place - l).toNat = 0 by omega, Nat.shiftLeft_zero]
    obtain ⟨_, h1⟩ := cut_near neg mag (l - place).toNat
    generalize Ieee.Toward.even.cut neg mag (l - place).toNat = c at *
    have h2 : 2 ^ f.fractionBits * 2 ^ (l - place).toNat ≤ 2 ^ mag.log2 := by
      rw [← Nat.pow_add]
      exact Nat.pow_le_pow_right (by omega) (by omega)
    have hg : 0 < 2 ^ (l - place).toNat := Nat.two_pow_pos _
    generalize 2 ^ (l - place).toNat = g at *
    generalize 2 ^ f.fractionBits = b at *
    by_cases hc : b ≤ c
    · exact hc
    · exfalso
      have h3 : (c + 1) * g ≤ b * g := Nat.mul_le_mul_right g (by omega)
      rw [Nat.add_mul] at h3
      omega
theorem word_parts (f : Ieee.Format) (neg : Bool) (rung : Nat) (h : rung < f.signWeight) : (f.word neg rung / f.signWeight % 2 == 1) = neg ∧ f.word neg rung % f.signWeight = rung := by
  unfold Ieee.Format.word
  cases neg with
  | true =>
    rw [if_pos rfl, Nat.add_div_left _ (by omega), Nat.div_eq_of_lt h, Nat.add_mod_left, Nat.mod_eq_of_lt h]
    exact ⟨rfl, rfl⟩
  | false =>
    rw [if_neg (by simp), Nat.div_eq_of_lt h, Nat.mod_eq_of_lt h]
    exact ⟨rfl, rfl⟩
/-- the nearest word is read as the digits that were kept -/
theorem near_read (f : Ieee.Format) (neg : Bool) (mag : Nat) (place : Int) (hm0 : mag ≠ 0) (hov : (lst f mag place - f.leastPlace).toNat + 2 < 2 ^ f.exponentBits - 1) :
    ∃ m' e', f.read (f.nearest neg mag place) = .number neg m' e' ∧ (m' : Rat) * p2 e' = (kpt f neg mag place : Rat) * p2 (lst f mag place) := by
  have hb0 : 0 < f.binade := Nat.two_pow_pos _
  have h1 := kpt_le f neg mag place
  have h2 := kpt_ge f neg mag place hm0
  have hll : f.leastPlace ≤ lst f mag place := Int.le_max_right _ _
  unfold Ieee.Format.nearest
  rw [if_neg hm0]
  show ∃ m' e', f.read (f.word neg (min ((lst f mag place - f.leastPlace).toNat * f.binade + kpt f neg mag place) f.infRung)) = .number neg m' e' ∧ _
  generalize hk : kpt f neg mag place = k at *
  generalize hl : lst f mag place = l at *
  obtain ⟨q, hq⟩ : ∃ q : Nat, (l - f.leastPlace).toNat = q := ⟨_, rfl⟩
  rw [hq] at hov ⊢
  have hlq : l = f.leastPlace + (q : Int) := by omega
  have hlt : q * f.binade + k < f.infRung := by
    unfold Ieee.Format.infRung
    have : (q + 2 + 1) * f.binade ≤ (2 ^ f.exponentBits - 1) * f.binade := Nat.mul_le_mul_right _ (by omega)
    rw [Nat.add_mul, Nat.add_mul] at this
    omega
  rw [Nat.min_eq_left (by omega)]
  have hs := f.infRung_lt
  obtain ⟨w1, w2⟩ := word_parts f neg (q * f.binade + k) (by omega)
  unfold Ieee.Format.read
  simp only [w1, w2]
  by_cases hkb : k < f.binade
  · have hq0 : q = 0 := by
      by_cases hq0 : q = 0
      · exact hq0
      · exfalso
        have := h2 (by omega)
        omega
    subst hq0
    rw [if_pos (by omega)]
    refine ⟨_, _, rfl, ?_⟩
    rw [hlq]
    simp
  · rw [if_neg (by omega), if_pos hlt]
    by_cases hk2 : k = 2 * f.binade
    · refine ⟨_, _, rfl, ?_⟩
      have e1 : (q * f.binade + k) % f.binade = 0 := by
        rw [hk2, ← Nat.add_mul]
        exact Nat.mul_mod_left _ _
      have e2 : (q * f.binade + k) / f.binade = q + 2 := by
        rw [hk2, ← Nat.add_mul]
        exact Nat.mul_div_cancel _ hb0
      rw [e1, e2, hk2, hlq, show q + 2 - 1 = q + 1 by omega, Nat.add_zero]
      rw [show f.leastPlace + ((q + 1 : Nat) : Int) = f.leastPlace + (q : Int) + 1 by omega, p2_add (f.leastPlace + (q : Int)) 1]
      have : p2 1 = 2 := rfl
      rw [this]
      simp
      grind
    · refine ⟨_, _, rfl, ?_⟩
      obtain ⟨r, hr⟩ : ∃ r, k = f.binade + r := ⟨k - f.binade, by omega⟩
      have hrb : r < f.binade := by omega
      have e0 : q * f.binade + k = f.binade * (q + 1) + r := by rw [hr, Nat.mul_add, Nat.mul_comm q]; omega
      have e1 : (q * f.binade + k) % f.binade = r := by rw [e0, Nat.mul_add_mod, Nat.mod_eq_of_lt hrb]
      have e2 : (q * f.binade + k) / f.binade = q + 1 := by rw [e0, Nat.mul_add_div hb0, Nat.div_eq_of_lt hrb, Nat.add_zero]
      rw [e1, e2, show q + 1 - 1 = q by omega, ← hr, hlq]
end Go.Proofs.Ytgocgcnpgmamiaa
