/-
  A mass alone: times what holds it, its sway is 1, but for rounding.
-/
import Derived.Test.YtgocgcnpgmamiaaSwOne
namespace Go.Proofs.Ytgocgcnpgmamiaa
open Go.ChangeShapes Go.WideShapes Go.ChangeAt Go.RowKit
set_option linter.unusedVariables false
set_option linter.unusedSimpArgs false

theorem sum_comm (s t : Bool) (m n : Nat) (i j : Int) : Ieee.Datum.sum (.number s m i) (.number t n j) = Ieee.Datum.sum (.number t n j) (.number s m i) := by
  simp only [Ieee.Datum.sum]
  rw [Int.min_comm i j, Int.add_comm (Ieee.signed s m _), Bool.and_comm]
theorem neg_read {x : Nat} {s : Bool} {m : Nat} {e : Int} (hx : FloatKind.f64.format.read x = .number s m e) : FloatKind.f64.format.read (Op.negFloat .f64 x) = .number (!s) m e := by
  have h : Op.negFloat .f64 x % FloatKind.f64.format.signWeight = x % FloatKind.f64.format.signWeight := by
    show (x ^^^ 2 ^ 63) % 2 ^ 63 = x % 2 ^ 63
    rw [Nat.xor_mod_two_pow, Nat.mod_self, Nat.xor_zero]
  have h2 : (Op.negFloat .f64 x / FloatKind.f64.format.signWeight % 2 == 1) = !(x / FloatKind.f64.format.signWeight % 2 == 1) := by
    show ((x ^^^ 2 ^ 63) / 2 ^ 63 % 2 == 1) = !(x / 2 ^ 63 % 2 == 1)
    rw [← Nat.shiftRight_eq_div_pow, ← Nat.shiftRight_eq_div_pow, Nat.shiftRight_xor_distrib]
    rw [show 2 ^ 63 >>> 63 = 1 from rfl]
    have hx2 : (x >>> 63 ^^^ 1) % 2 ^ 1 = (x >>> 63 % 2 ^ 1) ^^^ (1 % 2 ^ 1) := Nat.xor_mod_two_pow
    rw [show (2 : Nat) ^ 1 = 2 from rfl] at hx2
    rw [hx2]
    have : x >>> 63 % 2 = 0 ∨ x >>> 63 % 2 = 1 := by omega
    rcases this with h | h <;> rw [h] <;> rfl
  unfold Ieee.Format.read at hx ⊢
  simp only [h, h2] at hx ⊢
  split at hx
  · rename_i c1; rw [if_pos c1]; cases hx; rfl
  · rename_i c1
    rw [if_neg c1]
    split at hx
    · rename_i c2; rw [if_pos c2]; cases hx; rfl
    · split at hx <;> cases hx
/-- a difference, the other way round -/
theorem add_neg {x y : Nat} (hx : isNum .f64 x) (hy : isNum .f64 y) : floatBits .add .f64 (Op.negFloat .f64 y) x = floatBits .sub .f64 x y := by
  obtain ⟨s, m, e, ha⟩ := hx
  obtain ⟨t, n, j, hb⟩ := hy
  simp only [floatBits, Ieee.Format.add, Ieee.Format.sub, ha, hb, neg_read hb]
  rw [sum_comm]
  rfl
theorem mulabs {d D r M : Rat} (h1 : -D ≤ d) (h2 : d ≤ D) (h3 : -M ≤ r) (h4 : r ≤ M) : -(D * M) ≤ d * r ∧ d * r ≤ D * M := by
  have hD : 0 ≤ D := by grind
  have hM : 0 ≤ M := by grind
  have p1 := Rat.mul_nonneg (show 0 ≤ D - d by grind) (show 0 ≤ M - r by grind)
  have p2 := Rat.mul_nonneg (show 0 ≤ D - d by grind) (show 0 ≤ M + r by grind)
  have p3 := Rat.mul_nonneg (show 0 ≤ D + d by grind) (show 0 ≤ M - r by grind)
  have p4 := Rat.mul_nonneg (show 0 ≤ D + d by grind) (show 0 ≤ M + r by grind)
  constructor <;> grind
theorem absq (R : Rat) : ∃ p, 0 ≤ p ∧ -p ≤ R ∧ R ≤ p ∧ p * p = R * R := by
  by_cases h : 0 ≤ R
  · exact ⟨R, h, by grind, by grind, rfl⟩
  · exact ⟨-R, by grind, by grind, by grind, by grind⟩
/-- what a sum of squares is -/
theorem sq_near {a b : Nat} (na : isNum .f64 a) (nb : isNum .f64 b) (ha : val .f64 a * val .f64 a ≤ 10000000000000000) (hb : val .f64 b * val .f64 b ≤ 10000000000000000) : ∃ A B N, floatBits .mul .f64 a a = some A ∧ floatBits .mul .f64 b b = some B ∧ floatBits .add .f64 A B = some N ∧ isNum .f64 N ∧ val .f64 N - (val .f64 a * val .f64 a + val .f64 b * val .f64 b) ≤ 4 / 1000000000000000 * (val .f64 a * val .f64 a + val .f64 b * val .f64 b) + 4 / 1000000000000000000000000000000 ∧ (val .f64 a * val .f64 a + val .f64 b * val .f64 b) - val .f64 N ≤ 4 / 1000000000000000 * (val .f64 a * val .f64 a + val .f64 b * val .f64 b) + 4 / 1000000000000000000000000000000 := by
  have e1v : e1 .f64 = 1 / 1000000000000000 := rfl
  have e2v : e2 = 1 / 1000000000000000000000000000000 := rfl
  obtain ⟨p, p0, p1, p2', p3⟩ := absq (val .f64 a)
  obtain ⟨q, q0, q1, q2, q3⟩ := absq (val .f64 b)
  have s1 := Rat.mul_nonneg p0 p0
  have s2 := Rat.mul_nonneg q0 q0
  obtain ⟨A, fA, nA, A1, A2⟩ := mul_val na na (val .f64 a * val .f64 a) (Rat.le_refl) (by grind) (Rat.le_trans (by grind) top64)
  obtain ⟨B, fB, nB, B1, B2⟩ := mul_val nb nb (val .f64 b * val .f64 b) (Rat.le_refl) (by grind) (Rat.le_trans (by grind) top64)
  rw [e1v, e2v] at A1 A2 B1 B2
  generalize val .f64 a * val .f64 a = X at *
  generalize val .f64 b * val .f64 b = Y at *
  obtain ⟨N, fN, nN, N1, N2⟩ := add_val nA nB (2 * (X + Y) + 1 / 10000000000000000000000) (by grind) (by grind) (Rat.le_trans (by grind) top64)
  rw [e1v, e2v] at N1 N2
  refine ⟨A, B, N, fA, fB, fN, nN, ?_, ?_⟩ <;> grind
/-- a quotient, times what is near it -/
theorem part_near {u n v : Nat} {c ρ σ : Rat} (nu : isNum .f64 u) (nn : isNum .f64 n) (nv : isNum .f64 v) (hn : val .f64 n * c = 1) (hc : 0 < c) (u1 : -ρ ≤ val .f64 u) (u2 : val .f64 u ≤ ρ) (v1 : -σ ≤ val .f64 v) (v2 : val .f64 v ≤ σ) (h1 : ρ * c * σ ≤ 11 / 10) (h2 : ρ * c ≤ 1000000000000000) (h3 : σ ≤ 1000000000) (t : Nat) (ht : floatBits .quo .f64 u n = some t) :
    ∃ p, floatBits .mul .f64 t v = some p ∧ isNum .f64 p ∧ val .f64 p - val .f64 u * c * val .f64 v ≤ 1 / 100000000000000 ∧ val .f64 u * c * val .f64 v - val .f64 p ≤ 1 / 100000000000000 := by
  have e1v : e1 .f64 = 1 / 1000000000000000 := rfl
  have e2v : e2 = 1 / 1000000000000000000000000000000 := rfl
  have hn0 : val .f64 n ≠ 0 := by intro h; rw [h] at hn; grind
  have hdiv : val .f64 u / val .f64 n = val .f64 u * c := by
    have e : val .f64 n * (val .f64 n)⁻¹ = 1 := Rat.mul_inv_cancel _ hn0
    rw [Rat.div_def]
    generalize (val .f64 n)⁻¹ = z at *
    have : z = c := by
      have : z * (val .f64 n * c) = c * (val .f64 n * z) := by grind
      rw [hn, e] at this
      grind
    rw [this]
  obtain ⟨m1, m2⟩ := mulabs u1 u2 (show -c ≤ c by grind) (Rat.le_refl (a := c))
  obtain ⟨t', ht', nt, t1, t2⟩ := quo_val nu nn hn0 (ρ * c) (by rw [hdiv]; grind) (by rw [hdiv]; grind) (Rat.le_trans (by grind) top64)
  rw [ht] at ht'
  cases ht'
  rw [hdiv, e1v, e2v] at t1 t2
  obtain ⟨k1, k2⟩ := mulabs (d := val .f64 t - val .f64 u * c) (D := 3 * (1 / 1000000000000000 * (ρ * c)) + 1 / 1000000000000000000000000000000) (by grind) (by grind) v1 v2
  obtain ⟨l1, l2⟩ := mulabs (d := val .f64 u * c) (D := ρ * c) (by grind) (by grind) v1 v2
  have hs : 0 ≤ σ := by grind
  obtain ⟨p, fp, np, p1, p2'⟩ := mul_val nt nv 2 (by grind) (by grind) (Rat.le_trans (by grind) top64)
  rw [e1v, e2v] at p1 p2'
  exact ⟨p, fp, np, by grind, by grind⟩
end Go.Proofs.Ytgocgcnpgmamiaa
