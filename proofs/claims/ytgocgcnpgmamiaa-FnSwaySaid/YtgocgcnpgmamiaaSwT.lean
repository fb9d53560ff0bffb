/-
  Sways at the pulse 0: each is the sum of what the springs up to it give, but for rounding.
-/
import Derived.Test.YtgocgcnpgmamiaaRlMath
namespace Go.Proofs.Ytgocgcnpgmamiaa
open Go.ChangeShapes Go.WideShapes Go.ChangeAt Go.RowKit
set_option linter.unusedVariables false
set_option linter.unusedSimpArgs false

/-- a tone without a turn -/
def Tr (t : Tn) (k : Nat) (X : Rat) : Prop := ∃ a b, t = (some a, some b) ∧ isNum .f64 a ∧ isNum .f64 b ∧ val .f64 b = 0 ∧ Rel k (val .f64 a) X
theorem Tr.up {t : Tn} {a b : Nat} {X : Rat} (h : Tr t a X) (hb : a ≤ b) : Tr t b X := by
  obtain ⟨u, v, e, h1, h2, h3, h4⟩ := h
  exact ⟨u, v, e, h1, h2, h3, h4.up hb⟩
theorem two_mul {a b : Nat} {x X y Y : Rat} (h : Rel a x X) (k : Rel b y Y) (ha : a ≤ 8000000) (hb : b ≤ 8000000) : x * y ≤ X * Y * 2 ∧ X * Y ≤ x * y * 2 := by
  obtain ⟨x1, x2⟩ := h.two ha
  obtain ⟨y1, y2⟩ := k.two hb
  obtain ⟨h1, h2, _⟩ := h
  obtain ⟨k1, k2, _⟩ := k
  have m1 := mul_le4 (Rat.le_of_lt h1) x1 (Rat.le_of_lt k1) y1
  have m2 := mul_le4 (Rat.le_of_lt h2) x2 (Rat.le_of_lt k2) y2
  have p1 := Rat.mul_pos h1 k1
  have p2 := Rat.mul_pos h2 k2
  constructor <;> grind
theorem nil_l {x y : Rat} (h : x = 0) : x * y = 0 := by rw [h]; grind
theorem nil_r {x y : Rat} (h : y = 0) : x * y = 0 := by rw [h]; grind
theorem tmul_tr {t s : Tn} {k l : Nat} {X Y : Rat} (ht : Tr t k X) (hs : Tr s l Y) (hk : k ≤ 8000000) (hl : l ≤ 8000000) (lo : 1 / 10000000000000 ≤ X * Y) (hi : X * Y ≤ 10000000000000000000) : Tr (tmul t s) (k + l + 1) (X * Y) := by
  obtain ⟨a, a2, rfl, na, na2, za, ra⟩ := ht
  obtain ⟨b, b2, rfl, nb, nb2, zb, rb⟩ := hs
  obtain ⟨m1, m2⟩ := two_mul ra rb hk hl
  obtain ⟨p, fp, np, rp⟩ := mul_rel na nb (by grind) (by grind)
  obtain ⟨c, fc, nc, vc⟩ := mul_nil na2 nb2 (nil_l za)
  obtain ⟨d, fd, nd, vd⟩ := mul_nil na nb2 (nil_r zb)
  obtain ⟨e, fe, ne, ve⟩ := mul_nil na2 nb (nil_l za)
  have q1 : qp 1 = 1 + 1 / 100000000000000 := by simp only [qp, qq_v]; grind
  have rp3 := rp.2.2.1
  rw [q1] at rp3
  have rp0 := rp.1
  obtain ⟨r, fr, nr, vr⟩ := sub_keep np nc vc (by grind) (by grind)
  obtain ⟨i, fi, ni, vi⟩ := add_keep nd ne ve (by grind) (by grind)
  refine ⟨r, i, ?_, nr, ni, by rw [vi, vd], ?_⟩
  · simp only [tmul, fs, fm, fa, fop, fp, fc, fd, fe, fr, fi]
  · rw [vr]
    have := rp.trans (ra.mul rb)
    rw [Nat.add_comm 1] at this
    exact this
theorem tadd_tr {t s : Tn} {k : Nat} {X Y : Rat} (ht : Tr t k X) (hs : Tr s k Y) (hk : k ≤ 8000000) (lo : 1 / 10000000000000 ≤ X + Y) (hi : X + Y ≤ 10000000000000000000) : Tr (tadd t s) (k + 1) (X + Y) := by
  obtain ⟨a, a2, rfl, na, na2, za, ra⟩ := ht
  obtain ⟨b, b2, rfl, nb, nb2, zb, rb⟩ := hs
  obtain ⟨m1, m2⟩ := (ra.add rb).two hk
  have hp := (ra.add rb).1
  obtain ⟨p, fp, np, rp⟩ := add_rel na nb (by grind) (by grind)
  obtain ⟨i, fi, ni, vi⟩ := add_keep na2 nb2 zb (by grind) (by grind)
  refine ⟨p, i, ?_, np, ni, by rw [vi, za], ?_⟩
  · simp only [tadd, fa, fop, fp, fi]
  · have := rp.trans (ra.add rb)
    rw [Nat.add_comm 1] at this
    exact this
theorem tadd_nil {a0 b0 : Nat} {s : Tn} {k : Nat} {Y : Rat} (h1 : isNum .f64 a0) (h2 : isNum .f64 b0) (z1 : val .f64 a0 = 0) (z2 : val .f64 b0 = 0) (hs : Tr s k Y) (hk : k ≤ 8000000) (hi : Y ≤ 10000000000000000000) : Tr (tadd (some a0, some b0) s) k Y := by
  obtain ⟨b, b2, rfl, nb, nb2, zb, rb⟩ := hs
  obtain ⟨m1, m2⟩ := rb.two hk
  have hp := rb.1
  obtain ⟨p, fp, np, rp⟩ := add_keep' h1 nb z1 (by grind) (by grind)
  obtain ⟨i, fi, ni, vi⟩ := add_keep h2 nb2 zb (by grind) (by grind)
  refine ⟨p, i, ?_, np, ni, by rw [vi, z2], by rw [rp]; exact rb⟩
  simp only [tadd, fa, fop, fp, fi]
theorem tr_zero {s : Tn} {k : Nat} {Y : Rat} (hs : Tr s k Y) : tzero s = false := by
  obtain ⟨b, b2, rfl, nb, nb2, zb, rb⟩ := hs
  have h0 := rb.1
  simp only [tzero, fz, ford]
  rw [order_val nb num_0, val_0, if_neg (by grind), if_neg (by grind)]
  rfl
theorem can_sq {x y : Rat} (hy : 0 < y) : x * y / (y * y) = x / y := by
  rw [Rat.div_def, Rat.div_def]
  have e : y * y⁻¹ = 1 := Rat.mul_inv_cancel _ (by grind)
  have e2 : (y * y) * (y * y)⁻¹ = 1 := Rat.mul_inv_cancel _ (by have := Rat.mul_pos hy hy; grind)
  generalize y⁻¹ = u at *
  generalize (y * y)⁻¹ = v at *
  have : x * y * v * (y * u) = x * u * (y * y * v) := by grind
  rw [e, e2] at this
  grind
theorem tdiv_tr {t s : Tn} {k l : Nat} {X Y : Rat} (ht : Tr t k X) (hs : Tr s l Y) (hkl : k + l ≤ 7999990) (lo : 1 / 10000000000000 ≤ X * Y) (hi : X * Y ≤ 10000000000000000000) (lo2 : 1 / 10000000000000 ≤ Y * Y) (hi2 : Y * Y ≤ 10000000000000000000) (lo3 : 1 / 10000000000000 ≤ X / Y) (hi3 : X / Y ≤ 10000000000000000000) : Tr (tdiv t s) (k + l + 3) (X / Y) := by
  obtain ⟨a, a2, rfl, na, na2, za, ra⟩ := ht
  obtain ⟨b, b2, rfl, nb, nb2, zb, rb⟩ := hs
  obtain ⟨m1, m2⟩ := two_mul ra rb (by omega) (by omega)
  obtain ⟨m3, m4⟩ := two_mul rb rb (by omega) (by omega)
  have q1 : qp 1 = 1 + 1 / 100000000000000 := by simp only [qp, qq_v]; grind
  obtain ⟨u, fu, nu, ru⟩ := mul_rel na nb (by grind) (by grind)
  obtain ⟨v, fv, nv, vv⟩ := mul_nil na2 nb2 (nil_l za)
  have ru3 := ru.2.2.1
  rw [q1] at ru3
  have ru0 := ru.1
  obtain ⟨u', fu', nu', vu'⟩ := add_keep nu nv vv (by grind) (by grind)
  obtain ⟨n, fn, nn, rn⟩ := mul_rel nb nb (by grind) (by grind)
  obtain ⟨n2, fn2, nn2, vn2⟩ := mul_nil nb2 nb2 (nil_l zb)
  have rn3 := rn.2.2.1
  rw [q1] at rn3
  have rn0 := rn.1
  obtain ⟨n', fn', nn', vn'⟩ := add_keep nn nn2 vn2 (by grind) (by grind)
  obtain ⟨c, fc, nc, vc⟩ := mul_nil na2 nb (nil_l za)
  obtain ⟨d, fd, nd, vd⟩ := mul_nil na nb2 (nil_r zb)
  obtain ⟨e, fe, ne, ve⟩ := sub_keep nc nd vd (by grind) (by grind)
  have hz : val .f64 n' ≠ 0 := by rw [vn']; grind
  obtain ⟨i, fi, ni, vi⟩ := quo_nil ne nn' (by rw [ve, vc]) hz
  have hq : Rel 2 (val .f64 u' / val .f64 n') (val .f64 a / val .f64 b) := by
    rw [vu', vn', ← can_sq rb.1]
    exact ru.div rn
  have hq2 := hq.trans (ra.div rb)
  obtain ⟨m5, m6⟩ := hq2.two (by omega)
  have hq0 := hq2.1
  obtain ⟨r, fr, nr, rr⟩ := quo_rel nu' nn' hz (by grind) (by grind)
  refine ⟨r, i, ?_, nr, ni, vi, ?_⟩
  · simp only [tdiv, tsq, fs, fm, fa, fq, fop, fu, fv, fu', fn, fn2, fn', fc, fd, fe, fi, fr]
  · exact (rr.trans hq2).up (by omega)
theorem tshare_tr {t s : Tn} {k l : Nat} {X Y : Rat} (ht : Tr t k X) (hs : Tr s l Y) (hkl : k + l ≤ 7999990) (lo : 1 / 10000000000000 ≤ X * Y) (hi : X * Y ≤ 10000000000000000000) (lo2 : 1 / 10000000000000 ≤ Y * Y) (hi2 : Y * Y ≤ 10000000000000000000) (lo3 : 1 / 10000000000000 ≤ X / Y) (hi3 : X / Y ≤ 10000000000000000000) : Tr (tshare t s) (k + l + 3) (X / Y) := by
  unfold tshare
  rw [tr_zero hs]
  exact tdiv_tr ht hs hkl lo hi lo2 hi2 lo3 hi3
end Go.Proofs.Ytgocgcnpgmamiaa
