/-
  What the law's own sums come to, and where calmed numbers lie.
-/
import Derived.Test.YtgocgcnpgmamiaaSqMath
namespace Go.Proofs.Ytgocgcnpgmamiaa
open Go.ChangeShapes Go.WideShapes Go.ChangeAt Go.RowKit
set_option linter.unusedVariables false
set_option linter.unusedSimpArgs false

/-- sums over the first i -/
def sm (f : Nat → Rat) : Nat → Rat
  | 0 => 0
  | i + 1 => sm f i + f i
theorem sm8 (f : Nat → Rat) : sm f 8 = f 0 + f 1 + f 2 + f 3 + f 4 + f 5 + f 6 + f 7 := by simp only [sm]; grind
theorem TR8 (X : Nat → Rat) (k : Nat) : TR X k 8 = X 0 * tr (0 * k % 8) + X 1 * tr (1 * k % 8) + X 2 * tr (2 * k % 8) + X 3 * tr (3 * k % 8) + X 4 * tr (4 * k % 8) + X 5 * tr (5 * k % 8) + X 6 * tr (6 * k % 8) + X 7 * tr (7 * k % 8) := by simp only [TR]; grind
theorem TI8 (X : Nat → Rat) (k : Nat) : TI X k 8 = X 0 * ti (0 * k % 8) + X 1 * ti (1 * k % 8) + X 2 * ti (2 * k % 8) + X 3 * ti (3 * k % 8) + X 4 * ti (4 * k % 8) + X 5 * ti (5 * k % 8) + X 6 * ti (6 * k % 8) + X 7 * ti (7 * k % 8) := by simp only [TI]; grind
theorem all_re (X : Nat → Rat) : sm (fun k => TR X k 8) 8 = 8 * X 0 := by
  obtain ⟨a0, a1, a2, a3, a4, a5, a6, a7⟩ := tr_vals
  rw [sm8]
  simp only [TR8, Nat.reduceMul, Nat.reduceMod, a0, a1, a2, a3, a4, a5, a6, a7]
  grind
theorem all_im (X : Nat → Rat) : sm (fun k => TI X k 8) 8 = 0 := by
  obtain ⟨a0, a1, a2, a3, a4, a5, a6, a7⟩ := ti_vals
  rw [sm8]
  simp only [TI8, Nat.reduceMul, Nat.reduceMod, a0, a1, a2, a3, a4, a5, a6, a7]
  grind
theorem tone_0 (X : Nat → Rat) : TR X 0 8 = sm X 8 ∧ TI X 0 8 = 0 := by
  obtain ⟨a0, _⟩ := tr_vals
  obtain ⟨b0, _⟩ := ti_vals
  rw [sm8, TR8, TI8]
  simp only [Nat.mul_zero, Nat.zero_mod, a0, b0]
  constructor <;> grind
theorem mirror (X : Nat → Rat) (k : Nat) (h0 : 1 ≤ k) (h : k < 8) : TR X k 8 = TR X (8 - k) 8 ∧ TI X k 8 = -TI X (8 - k) 8 := by
  obtain ⟨a0, a1, a2, a3, a4, a5, a6, a7⟩ := tr_vals
  obtain ⟨b0, b1, b2, b3, b4, b5, b6, b7⟩ := ti_vals
  match k, h0, h with
  | 1, _, _ => simp only [TR8, TI8, Nat.reduceSub, Nat.reduceMul, Nat.reduceMod, a0, a1, a2, a3, a4, a5, a6, a7, b0, b1, b2, b3, b4, b5, b6, b7]; constructor <;> grind
  | 2, _, _ => simp only [TR8, TI8, Nat.reduceSub, Nat.reduceMul, Nat.reduceMod, a0, a1, a2, a3, a4, a5, a6, a7, b0, b1, b2, b3, b4, b5, b6, b7]; constructor <;> grind
  | 3, _, _ => simp only [TR8, TI8, Nat.reduceSub, Nat.reduceMul, Nat.reduceMod, a0, a1, a2, a3, a4, a5, a6, a7, b0, b1, b2, b3, b4, b5, b6, b7]; constructor <;> grind
  | 4, _, _ => simp only [TR8, TI8, Nat.reduceSub, Nat.reduceMul, Nat.reduceMod, a0, a1, a2, a3, a4, a5, a6, a7, b0, b1, b2, b3, b4, b5, b6, b7]; constructor <;> grind
  | 5, _, _ => simp only [TR8, TI8, Nat.reduceSub, Nat.reduceMul, Nat.reduceMod, a0, a1, a2, a3, a4, a5, a6, a7, b0, b1, b2, b3, b4, b5, b6, b7]; constructor <;> grind
  | 6, _, _ => simp only [TR8, TI8, Nat.reduceSub, Nat.reduceMul, Nat.reduceMod, a0, a1, a2, a3, a4, a5, a6, a7, b0, b1, b2, b3, b4, b5, b6, b7]; constructor <;> grind
  | 7, _, _ => simp only [TR8, TI8, Nat.reduceSub, Nat.reduceMul, Nat.reduceMod, a0, a1, a2, a3, a4, a5, a6, a7, b0, b1, b2, b3, b4, b5, b6, b7]; constructor <;> grind
/-- a sum of two near ones -/
theorem add_near {x y : Nat} {X Y d e M : Rat} (hx : Nr .f64 x X d) (hy : Nr .f64 y Y e) (h1 : X + Y + d + e ≤ M) (h2 : -(X + Y) + d + e ≤ M) (hM : M ≤ 100000000000000000000) : ∃ r, floatBits .add .f64 x y = some r ∧ Nr .f64 r (X + Y) (d + e + (1 / 1000000000000000 * M + 1 / 1000000000000000000000000000000)) := by
  obtain ⟨nx, x1, x2⟩ := hx
  obtain ⟨ny, y1, y2⟩ := hy
  have := top64
  obtain ⟨r, hr, nr, r1, r2⟩ := add_val nx ny M (by grind) (by grind) (by grind)
  have e1v : e1 .f64 = 1 / 1000000000000000 := rfl
  have e2v : e2 = 1 / 1000000000000000000000000000000 := rfl
  rw [e1v, e2v] at r1 r2
  exact ⟨r, hr, nr, by grind, by grind⟩
theorem sub_near {x y : Nat} {X Y d e M : Rat} (hx : Nr .f64 x X d) (hy : Nr .f64 y Y e) (h1 : X - Y + d + e ≤ M) (h2 : -(X - Y) + d + e ≤ M) (hM : M ≤ 100000000000000000000) : ∃ r, floatBits .sub .f64 x y = some r ∧ Nr .f64 r (X - Y) (d + e + (1 / 1000000000000000 * M + 1 / 1000000000000000000000000000000)) := by
  obtain ⟨nx, x1, x2⟩ := hx
  obtain ⟨ny, y1, y2⟩ := hy
  have := top64
  obtain ⟨r, hr, nr, r1, r2⟩ := sub_val nx ny M (by grind) (by grind) (by grind)
  have e1v : e1 .f64 = 1 / 1000000000000000 := rfl
  have e2v : e2 = 1 / 1000000000000000000000000000000 := rfl
  rw [e1v, e2v] at r1 r2
  exact ⟨r, hr, nr, by grind, by grind⟩
theorem mul_near {x y : Nat} {M : Rat} (nx : isNum .f64 x) (ny : isNum .f64 y) (h1 : val .f64 x * val .f64 y ≤ M) (h2 : -(val .f64 x * val .f64 y) ≤ M) (hM : M ≤ 100000000000000000000) : ∃ r, floatBits .mul .f64 x y = some r ∧ Nr .f64 r (val .f64 x * val .f64 y) (1 / 1000000000000000 * M + 1 / 1000000000000000000000000000000) := by
  have := top64
  exact mul_val nx ny M h1 h2 (by grind)
/-- a step of calming goes past neither what was nor what comes -/
theorem val32_0 : isNum .f32 0 ∧ val .f32 0 = 0 := by
  refine ⟨⟨_, _, _, rfl⟩, ?_⟩
  have := cval (k := .f32) (x := 0) (s := false) (m := 0) (n := 149) rfl
  have h2 : (0 : Rat) < ((2 ^ 149 : Nat) : Rat) := by exact_mod_cast Nat.two_pow_pos 149
  generalize ((2 ^ 149 : Nat) : Rat) = t at *
  have h3 : val .f32 0 * t = 0 := by rw [this]; simp only [sg]; grind
  rcases Rat.mul_eq_zero.1 h3 with h | h <;> grind
theorem calm_step {a y s : Nat} (na : isNum .f32 a) (ny : isNum .f32 y) (ns : isNum .f32 s) (s0 : 0 ≤ val .f32 s) (s1 : val .f32 s ≤ 1) (a1 : -1100000 ≤ val .f32 a) (a2 : val .f32 a ≤ 1100000) (y1 : -1100000 ≤ val .f32 y) (y2 : val .f32 y ≤ 1100000) :
    ∃ r, fop .add .f32 (some a) (fop .mul .f32 (some s) (fop .sub .f32 (some y) (some a))) = some r ∧ isNum .f32 r ∧ (val .f32 a ≤ val .f32 r ∨ val .f32 y - 2 / 5 ≤ val .f32 r) ∧ (val .f32 r ≤ val .f32 a ∨ val .f32 r ≤ val .f32 y + 2 / 5) := by
  obtain ⟨n0, v0⟩ := val32_0
  have htop := top32
  have e1v : e1 .f32 = 1 / 10000000 := rfl
  have e2v : e2 = 1 / 1000000000000000000000000000000 := rfl
  obtain ⟨d, hd, nd, d1, d2⟩ := sub_val ny na 2200000 (by grind) (by grind) (by grind)
  obtain ⟨m1, m2⟩ := sub_mono ny na 2200000 (by grind) (by grind) (by grind) hd n0
  rw [e1v, e2v] at d1 d2
  rw [v0] at m1 m2
  by_cases hya : val .f32 a ≤ val .f32 y
  · have hd0 := m2 (by grind)
    have q1 := Rat.mul_nonneg s0 hd0
    have q2 := Rat.mul_le_mul_of_nonneg_right s1 hd0
    obtain ⟨p, hp, np, _⟩ := mul_val ns nd 2300000 (by grind) (by grind) (by grind)
    obtain ⟨p1, _⟩ := mul_mono ns nd 2300000 (by grind) (by grind) (by grind) hp nd
    obtain ⟨_, p4⟩ := mul_mono ns nd 2300000 (by grind) (by grind) (by grind) hp n0
    rw [v0] at p4
    have p5 := p1 (by grind)
    have p6 := p4 (by grind)
    obtain ⟨r, hr, nr, r1, r2⟩ := add_val na np 1200000 (by grind) (by grind) (by grind)
    obtain ⟨_, r4⟩ := add_mono na np 1200000 (by grind) (by grind) (by grind) hr na
    rw [e1v, e2v] at r1 r2
    refine ⟨r, by simp only [fop, hd, hp, hr], nr, .inl (r4 (by grind)), .inr (by grind)⟩
  · have hd0 := m1 (by grind)
    have q1 := Rat.mul_nonneg s0 (show 0 ≤ -val .f32 d by grind)
    have q2 := Rat.mul_le_mul_of_nonneg_right s1 (show 0 ≤ -val .f32 d by grind)
    obtain ⟨p, hp, np, _⟩ := mul_val ns nd 2300000 (by grind) (by grind) (by grind)
    obtain ⟨_, p2'⟩ := mul_mono ns nd 2300000 (by grind) (by grind) (by grind) hp nd
    obtain ⟨p3, _⟩ := mul_mono ns nd 2300000 (by grind) (by grind) (by grind) hp n0
    rw [v0] at p3
    have p5 := p2' (by grind)
    have p6 := p3 (by grind)
    obtain ⟨r, hr, nr, r1, r2⟩ := add_val na np 1200000 (by grind) (by grind) (by grind)
    obtain ⟨r3, _⟩ := add_mono na np 1200000 (by grind) (by grind) (by grind) hr na
    rw [e1v, e2v] at r1 r2
    refine ⟨r, by simp only [fop, hd, hp, hr], nr, .inr (by grind), .inl (r3 (by grind))⟩
/-- what a number is worth in the lesser kind -/
def yv (L : List Nat) (j : Nat) : Rat := val .f32 ((cvt (L.getD j 0)).getD 0)
theorem cvt_at {x : Nat} (h : smp x = true) : ∃ y, cvt x = some y ∧ isNum .f32 y ∧ -1000001 ≤ val .f32 y ∧ val .f32 y ≤ 1000001 := by
  obtain ⟨y, hy, ny, h1, h2⟩ := cvt_some h
  obtain ⟨b1, b2⟩ := smp_val h
  have e2v : e2 = 1 / 1000000000000000000000000000000 := rfl
  rw [e2v] at h1 h2
  exact ⟨y, hy, ny, by grind, by grind⟩
theorem cl_near {L : List Nat} {n s : Nat} (ha : ∀ j, j < n → smp (L.getD j 0) = true) (ns : isNum .f32 s) (s0 : 0 ≤ val .f32 s) (s1 : val .f32 s ≤ 1) : ∀ i, i < n → ∃ c, cl L (some s) i = some c ∧ isNum .f32 c ∧ ∀ lo hi : Rat, (∀ j, j ≤ i → lo ≤ yv L j ∧ yv L j ≤ hi) → lo - 2 / 5 ≤ val .f32 c ∧ val .f32 c ≤ hi + 2 / 5 := by
  intro i
  induction i with
  | zero =>
    intro h
    obtain ⟨y, hy, ny, _⟩ := cvt_at (ha 0 h)
    refine ⟨y, hy, ny, fun lo hi hb => ?_⟩
    have h1 := hb 0 (Nat.le_refl _)
    unfold yv at h1
    rw [hy] at h1
    simp only [Option.getD_some] at h1
    constructor <;> grind
  | succ i ih =>
    intro h
    obtain ⟨a, hc, na, hab⟩ := ih (by omega)
    obtain ⟨y, hy, ny, y1, y2⟩ := cvt_at (ha (i + 1) h)
    have hbig := hab (-1000001) 1000001 (fun j hj => by
      obtain ⟨z, hz, nz, z1, z2⟩ := cvt_at (ha j (by omega))
      unfold yv
      rw [hz]
      exact ⟨z1, z2⟩)
    obtain ⟨r, hr, nr, q1, q2⟩ := calm_step na ny ns s0 s1 (by grind) (by grind) (by grind) (by grind)
    refine ⟨r, ?_, nr, fun lo hi hb => ?_⟩
    · rw [show cl L (some s) (i + 1) = fop .add .f32 (cl L (some s) i) (fop .mul .f32 (some s) (fop .sub .f32 (cvt (L.getD (i + 1) 0)) (cl L (some s) i))) from rfl, hc, hy, hr]
    · have h1 := hb (i + 1) (Nat.le_refl _)
      unfold yv at h1
      rw [hy] at h1
      simp only [Option.getD_some] at h1
      have h2 := hab lo hi (fun j hj => hb j (by omega))
      constructor
      · rcases q1 with q | q <;> grind
      · rcases q2 with q | q <;> grind
/-- the shares that are drawn -/
theorem share_ok (a : Nat) (h : a < 17) : ∃ s, floatBits .quo .f32 (floatOfInt .f32 (a : Int)) 1098907648 = some s ∧ shOk s = true := by
  have key : ∀ a : Fin 17, ((floatBits .quo .f32 (floatOfInt .f32 ((a.val : Nat) : Int)) 1098907648).map shOk) = some true := by decide +kernel
  have := key ⟨a, h⟩
  obtain ⟨s, h1, h2⟩ := map_some' this
  exact ⟨s, h1, h2⟩
end Go.Proofs.Ytgocgcnpgmamiaa
