/-
  A mass alone, whole.
-/
import Derived.Test.YtgocgcnpgmamiaaSwOm
namespace Go.Proofs.Ytgocgcnpgmamiaa
open Go.ChangeShapes Go.WideShapes Go.ChangeAt Go.RowKit
set_option linter.unusedVariables false
set_option linter.unusedSimpArgs false

theorem mul_one' {x : Nat} (hx : isNum .f64 x) (h1 : val .f64 x ≤ 1000000000) (h2 : -1000000000 ≤ val .f64 x) : ∃ r, floatBits .mul .f64 4607182418800017408 x = some r ∧ isNum .f64 r ∧ val .f64 r = val .f64 x := by
  have t0 : (1000000000 : Rat) ≤ p2 (top .f64) := Rat.le_trans (by grind) top64
  obtain ⟨r, hr, nr, _⟩ := mul_val num_1 hx 1000000000 (by rw [val_1]; grind) (by rw [val_1]; grind) t0
  obtain ⟨m1, m2⟩ := mul_mono num_1 hx 1000000000 (by rw [val_1]; grind) (by rw [val_1]; grind) t0 hr hx
  rw [val_1] at m1 m2
  have := m1 (by grind)
  have := m2 (by grind)
  exact ⟨r, hr, nr, by grind⟩
theorem sub_nil {x y : Nat} (hx : isNum .f64 x) (hy : isNum .f64 y) (h : val .f64 x = 0) (h1 : val .f64 y ≤ 1000000000) (h2 : -1000000000 ≤ val .f64 y) : ∃ r, floatBits .sub .f64 x y = some r ∧ isNum .f64 r ∧ val .f64 r = -val .f64 y := by
  have t0 : (1000000000 : Rat) ≤ p2 (top .f64) := Rat.le_trans (by grind) top64
  obtain ⟨nn, vn⟩ := neg_num hy
  obtain ⟨r, hr, nr, _⟩ := sub_val hx hy 1000000000 (by grind) (by grind) t0
  obtain ⟨m1, m2⟩ := sub_mono hx hy 1000000000 (by grind) (by grind) t0 hr nn
  rw [vn] at m1 m2
  have := m1 (by grind)
  have := m2 (by grind)
  exact ⟨r, hr, nr, by grind⟩
/-- what the law makes of a mass alone -/
structure One (L : List Nat) (wb : Nat) (q1 q2 re im A B N : Nat) : Prop where
  f1 : floatBits .mul .f64 wb wb = some q1
  f2 : floatBits .mul .f64 q1 (L.getD 0 0) = some q2
  f3 : floatBits .sub .f64 (L.getD 2 0) q2 = some re
  f4 : floatBits .mul .f64 wb (L.getD 1 0) = some im
  f5 : floatBits .mul .f64 re re = some A
  f6 : floatBits .mul .f64 im im = some B
  f7 : floatBits .add .f64 A B = some N
structure Two (L : List Nat) (wb re im t0 t1 p1 p2' x p3 p4 y : Nat) : Prop where
  sw : swf L wb 0 0 = (some t0, some t1)
  g1 : floatBits .mul .f64 t0 re = some p1
  g2 : floatBits .mul .f64 t1 im = some p2'
  g3 : floatBits .sub .f64 p1 p2' = some x
  g4 : floatBits .mul .f64 t0 im = some p3
  g5 : floatBits .mul .f64 t1 re = some p4
  g6 : floatBits .add .f64 p3 p4 = some y
  cx : ∀ w : World, Calls Try.prog 11 #[.float .f64 x, .float .f64 4607182418800017408] w fun e w' => e = .returned (.bool true) ∧ w' = w
  cy : ∀ w : World, Calls Try.prog 11 #[.float .f64 y, .float .f64 0] w fun e w' => e = .returned (.bool true) ∧ w' = w
theorem one_ok {L : List Nat} {wb : Nat} (hm : msOk L 0 = true) (nw : isNum .f64 wb) (w1 : 0 ≤ val .f64 wb) (w2 : val .f64 wb ≤ 5) :
    ∃ q1 q2 re im A B N, One L wb q1 q2 re im A B N ∧ ((FloatKind.f64.format.order N 4517329193108106637 == some .gt) = true → ∃ t0 t1 p1 p2' x p3 p4 y, Two L wb re im t0 t1 p1 p2' x p3 p4 y) := by
  have e1v : e1 .f64 = 1 / 1000000000000000 := rfl
  have e2v : e2 = 1 / 1000000000000000000000000000000 := rfl
  obtain ⟨h0, h1, h2⟩ := ms_parts hm
  rw [Nat.zero_mul, Nat.zero_add] at h1 h2
  rw [Nat.zero_mul] at h0
  obtain ⟨nM, M1, M2⟩ := mko_val h0
  obtain ⟨nC, C1, C2⟩ := pls_val h1
  obtain ⟨nK, K1, K2⟩ := mko_val h2
  have m1 := mul_le4 w1 w2 w1 w2
  have m2 := Rat.mul_nonneg w1 w1
  obtain ⟨q1, f1, nq1, a1, a2⟩ := mul_val nw nw 25 (by grind) (by grind) (Rat.le_trans (by grind) top64)
  rw [e1v, e2v] at a1 a2
  obtain ⟨b1, b2⟩ := mulabs (d := val .f64 q1) (D := 26) (r := val .f64 (L.getD 0 0)) (M := 1000000) (by grind) (by grind) (by grind) M2
  obtain ⟨q2, f2, nq2, c1, c2⟩ := mul_val nq1 nM 26000000 (by grind) (by grind) (Rat.le_trans (by grind) top64)
  rw [e1v, e2v] at c1 c2
  obtain ⟨re, f3, nre, d1, d2⟩ := sub_val nK nq2 28000000 (by grind) (by grind) (Rat.le_trans (by grind) top64)
  rw [e1v, e2v] at d1 d2
  obtain ⟨b3, b4⟩ := mulabs (d := val .f64 wb) (D := 5) (r := val .f64 (L.getD 1 0)) (M := 1000000) (by grind) (by grind) (by grind) C2
  obtain ⟨im, f4, nim, i1, i2⟩ := mul_val nw nC 5000000 (by grind) (by grind) (Rat.le_trans (by grind) top64)
  rw [e1v, e2v] at i1 i2
  have R1 : -30000000 ≤ val .f64 re := by grind
  have R2 : val .f64 re ≤ 30000000 := by grind
  have I1 : -30000000 ≤ val .f64 im := by grind
  have I2 : val .f64 im ≤ 30000000 := by grind
  obtain ⟨r1, r2⟩ := mulabs R1 R2 R1 R2
  obtain ⟨r3, r4⟩ := mulabs I1 I2 I1 I2
  obtain ⟨A, B, N, f5, f6, f7, nN, N1, N2⟩ := sq_near nre nim (by grind) (by grind)
  refine ⟨q1, q2, re, im, A, B, N, ⟨f1, f2, f3, f4, f5, f6, f7⟩, fun hgt => ?_⟩
  obtain ⟨ne, e3, e4⟩ := num_e6
  rw [ord_gt nN ne] at hgt
  have hgt := of_decide_eq_true hgt
  -- what it hangs by
  obtain ⟨j, fj, nj, vj⟩ := add_keep' num_0 nim val_0 (by grind) (by grind)
  have hdr : drg L wb 0 = (some re, some j) := by
    simp only [drg, ow, own_, lk, lnk, tadd, fa, fm, fneg, Nat.zero_mul, Nat.zero_add]
    rw [nw.fv, nM.fv, nC.fv, nK.fv]
    simp only [fop, f1, f2, f4, Option.map_some, add_neg nK nq2, f3, fj]
  obtain ⟨A', B', n, g5, g6, g7, nn, n1, n2⟩ := sq_near nre nj (by grind) (by rw [vj]; grind)
  rw [vj] at n1 n2
  obtain ⟨u1, hu1, nu1, vu1⟩ := mul_one' nre (by grind) (by grind)
  obtain ⟨z1, hz1, nz1, vz1⟩ := mul_nil num_0 nj (nil_l val_0)
  obtain ⟨u, hu, nu, vu⟩ := add_keep nu1 nz1 vz1 (by grind) (by grind)
  obtain ⟨z2, hz2, nz2, vz2⟩ := mul_nil num_0 nre (nil_l val_0)
  obtain ⟨v1, hv1, nv1, vv1⟩ := mul_one' nj (by grind) (by grind)
  obtain ⟨v, hv, nv, vv⟩ := sub_nil nz2 nv1 vz2 (by grind) (by grind)
  have eu : val .f64 u = val .f64 re := by rw [vu, vu1]
  have ev : val .f64 v = -val .f64 im := by rw [vv, vv1, vj]
  obtain ⟨ρ, ρ0, ρ1, ρ2, ρ3⟩ := absq (val .f64 re)
  obtain ⟨σ, σ0, σ1, σ2, σ3⟩ := absq (val .f64 im)
  have hcr := Rat.mul_nonneg ρ0 σ0
  have hrr := Rat.mul_nonneg ρ0 ρ0
  have hss := Rat.mul_nonneg σ0 σ0
  have hQ : 9 / 10000000 ≤ val .f64 re * val .f64 re + val .f64 im * val .f64 im := by grind
  have hn1 : val .f64 n - (val .f64 re * val .f64 re + val .f64 im * val .f64 im) ≤ 5 / 1000000000000000 * (val .f64 re * val .f64 re + val .f64 im * val .f64 im) := by grind
  have hn2 : (val .f64 re * val .f64 re + val .f64 im * val .f64 im) - val .f64 n ≤ 5 / 1000000000000000 * (val .f64 re * val .f64 re + val .f64 im * val .f64 im) := by grind
  have hn8 : 8 / 10000000 ≤ val .f64 n := by grind
  have hn9 : val .f64 n ≠ 0 := by grind
  obtain ⟨c, hc⟩ : ∃ c, c = (val .f64 n)⁻¹ := ⟨_, rfl⟩
  have hnc : val .f64 n * c = 1 := by rw [hc]; exact Rat.mul_inv_cancel _ hn9
  have c0 : 0 < c := by rw [hc]; exact Rat.inv_pos.2 (by grind)
  have c9 : c ≤ 1250000 := by
    have := Rat.mul_le_mul_of_nonneg_right hn8 (Rat.le_of_lt c0)
    grind
  have k1 := Rat.mul_le_mul_of_nonneg_right hn1 (Rat.le_of_lt c0)
  have k2 := Rat.mul_le_mul_of_nonneg_right hn2 (Rat.le_of_lt c0)
  have k3 := Rat.mul_nonneg hrr (Rat.le_of_lt c0)
  have k4 := Rat.mul_nonneg hss (Rat.le_of_lt c0)
  have k5 := Rat.mul_nonneg hcr (Rat.le_of_lt c0)
  have hsq : 0 ≤ (ρ - σ) * (ρ - σ) := by
    obtain ⟨z, z0, _, _, z3⟩ := absq (ρ - σ)
    rw [← z3]
    exact Rat.mul_nonneg z0 z0
  have k6 := Rat.mul_nonneg hsq (Rat.le_of_lt c0)
  have ρle : ρ ≤ 30000000 := by
    by_cases h : 0 ≤ val .f64 re
    · have : (ρ - val .f64 re) * (ρ + val .f64 re) = 0 := by grind
      rcases Rat.mul_eq_zero.1 this with h | h <;> grind
    · have : (ρ - val .f64 re) * (ρ + val .f64 re) = 0 := by grind
      rcases Rat.mul_eq_zero.1 this with h | h <;> grind
  have σle : σ ≤ 30000000 := by
    have : (σ - val .f64 im) * (σ + val .f64 im) = 0 := by grind
    rcases Rat.mul_eq_zero.1 this with h | h <;> grind
  have l1 := mul_le4 ρ0 ρle (Rat.le_of_lt c0) c9
  have l2 := mul_le4 σ0 σle (Rat.le_of_lt c0) c9
  obtain ⟨mu1, mu2⟩ := mulabs ρ1 ρ2 (show -c ≤ c by grind) (Rat.le_refl (a := c))
  have e0 : ∀ z, z / val .f64 n = z * c := fun z => by rw [Rat.div_def, hc]
  obtain ⟨t0, ht0, nt0, _⟩ := quo_val nu nn hn9 (37500000000000 * 2) (by rw [e0, eu]; grind) (by rw [e0, eu]; grind) (Rat.le_trans (by grind) top64)
  obtain ⟨mv1, mv2⟩ := mulabs σ1 σ2 (show -c ≤ c by grind) (Rat.le_refl (a := c))
  obtain ⟨t1, ht1, nt1, _⟩ := quo_val nv nn hn9 (37500000000000 * 2) (by rw [e0, ev]; grind) (by rw [e0, ev]; grind) (Rat.le_trans (by grind) top64)
  have Qc1 : (val .f64 re * val .f64 re + val .f64 im * val .f64 im) * c ≤ 1 + 1 / 100000000000000 := by grind
  have Qc2 : 1 - 1 / 100000000000000 ≤ (val .f64 re * val .f64 re + val .f64 im * val .f64 im) * c := by grind
  obtain ⟨p1, s1, np1, x1, x2⟩ := part_near (u := u) (n := n) (v := re) (ρ := ρ) (σ := ρ) nu nn nre hnc c0 (by rw [eu]; exact ρ1) (by rw [eu]; exact ρ2) ρ1 ρ2 (by grind) (by grind) (by grind) t0 ht0
  obtain ⟨p2', s2, np2, x3, x4⟩ := part_near (u := v) (n := n) (v := im) (ρ := σ) (σ := σ) nv nn nim hnc c0 (by rw [ev]; grind) (by rw [ev]; grind) σ1 σ2 (by grind) (by grind) (by grind) t1 ht1
  obtain ⟨p3, s3, np3, x5, x6⟩ := part_near (u := u) (n := n) (v := im) (ρ := ρ) (σ := σ) nu nn nim hnc c0 (by rw [eu]; exact ρ1) (by rw [eu]; exact ρ2) σ1 σ2 (by grind) (by grind) (by grind) t0 ht0
  obtain ⟨p4, s4, np4, x7, x8⟩ := part_near (u := v) (n := n) (v := re) (ρ := σ) (σ := ρ) nv nn nre hnc c0 (by rw [ev]; grind) (by rw [ev]; grind) ρ1 ρ2 (by grind) (by grind) (by grind) t1 ht1
  rw [eu] at x1 x2 x5 x6
  rw [ev] at x3 x4 x7 x8
  have y1 : val .f64 p1 - val .f64 p2' ≤ 1 + 1 / 10000000000000 := by grind
  have y2 : 1 - 1 / 10000000000000 ≤ val .f64 p1 - val .f64 p2' := by grind
  have y3 : val .f64 p3 + val .f64 p4 ≤ 1 / 10000000000000 := by grind
  have y4 : -(1 / 10000000000000) ≤ val .f64 p3 + val .f64 p4 := by grind
  obtain ⟨x, s5, nx, x9, x10⟩ := sub_val np1 np2 2 (by grind) (by grind) (Rat.le_trans (by grind) top64)
  obtain ⟨y, s6, ny, y9, y10⟩ := add_val np3 np4 2 (by grind) (by grind) (Rat.le_trans (by grind) top64)
  rw [e1v, e2v] at x9 x10 y9 y10
  refine ⟨t0, t1, p1, p2', x, p3, p4, y, ⟨?_, s1, s2, s5, s3, s4, s6, fun w => close_ok x _ w nx num_1 (by grind) (by grind) (fun m hm1 hm2 => by rw [val_1]; constructor <;> grind), fun w => close_ok y _ w ny num_0 (by grind) (by grind) (fun m hm1 hm2 => by rw [val_0]; constructor <;> grind)⟩⟩
  simp only [swf, hdr, tdiv, tsq, fa, fm, fs, fq, fop, hu1, hz1, hu, hz2, hv1, hv, g5, g6, g7, ht0, ht1]
end Go.Proofs.Ytgocgcnpgmamiaa
