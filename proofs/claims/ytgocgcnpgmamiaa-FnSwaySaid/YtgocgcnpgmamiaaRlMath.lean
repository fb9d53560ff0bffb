/-
  What is one but for rounding, by powers of a number just above 1.
-/
import Derived.Test.YtgocgcnpgmamiaaCaP
import Derived.Test.YtgocgcnpgmamiaaFlMono
import Derived.Test.YtgocgcnpgmamiaaSqMath
import Derived.Test.YtgocgcnpgmamiaaSwP
namespace Go.Proofs.Ytgocgcnpgmamiaa
open Go.ChangeShapes Go.WideShapes Go.ChangeAt Go.RowKit
set_option linter.unusedVariables false
set_option linter.unusedSimpArgs false

def qq : Rat := 1 + 1 / 100000000000000
def qp : Nat → Rat
  | 0 => 1
  | k + 1 => qp k * qq
theorem qq_v : qq = 1 + 1 / 100000000000000 := rfl
theorem qp_one (k : Nat) : 1 ≤ qp k := by
  induction k with
  | zero => simp only [qp]; grind
  | succ k ih =>
    simp only [qp]
    have := Rat.mul_le_mul_of_nonneg_right ih (show 0 ≤ qq by rw [qq_v]; grind)
    rw [qq_v] at this ⊢
    grind
theorem qp_add (a b : Nat) : qp (a + b) = qp a * qp b := by
  induction b with
  | zero => simp only [qp, Nat.add_zero]; grind
  | succ b ih => show qp (a + b) * qq = _; rw [ih]; simp only [qp]; grind
theorem qp_up {a b : Nat} (h : a ≤ b) : qp a ≤ qp b := by
  obtain ⟨d, rfl⟩ : ∃ d, b = a + d := ⟨b - a, by omega⟩
  rw [qp_add]
  have := Rat.mul_le_mul_of_nonneg_left (qp_one d) (show 0 ≤ qp a by have := qp_one a; grind)
  grind
theorem qp_bd (k : Nat) : qp k * (1 - (k : Rat) * (1 / 100000000000000)) ≤ 1 := by
  induction k with
  | zero => simp only [qp]; grind
  | succ k ih =>
    have hc : ((k + 1 : Nat) : Rat) = (k : Rat) + 1 := by simp
    have hk : (0 : Rat) ≤ (k : Rat) := by exact_mod_cast Nat.zero_le k
    have h1 := qp_one k
    rw [hc]
    simp only [qp, qq_v]
    have h2 : 0 ≤ qp k * ((k : Rat) + 1) := Rat.mul_nonneg (by grind) (by grind)
    grind
theorem qp_small {k : Nat} (h : k ≤ 8000000) : qp k ≤ 1 + 1 / 10000000 := by
  have hk : (k : Rat) ≤ 8000000 := by exact_mod_cast h
  have h1 := qp_bd k
  have h2 := qp_one k
  have h3 := Rat.mul_le_mul_of_nonneg_left hk (show 0 ≤ qp k by grind)
  grind
/-- one but for k roundings -/
def Rel (k : Nat) (x X : Rat) : Prop := 0 < x ∧ 0 < X ∧ x ≤ X * qp k ∧ X ≤ x * qp k
theorem Rel.self {x : Rat} (h : 0 < x) : Rel 0 x x := ⟨h, h, by simp only [qp]; grind, by simp only [qp]; grind⟩
theorem mul_le4 {a b c d : Rat} (h1 : 0 ≤ a) (h2 : a ≤ b) (h3 : 0 ≤ c) (h4 : c ≤ d) : a * c ≤ b * d :=
  Rat.le_trans (Rat.mul_le_mul_of_nonneg_right h2 h3) (Rat.mul_le_mul_of_nonneg_left h4 (Rat.le_trans h1 h2))
theorem Rel.up {a b : Nat} {x X : Rat} (h : Rel a x X) (hb : a ≤ b) : Rel b x X := by
  obtain ⟨h1, h2, h3, h4⟩ := h
  have q := qp_up hb
  exact ⟨h1, h2, Rat.le_trans h3 (Rat.mul_le_mul_of_nonneg_left q (Rat.le_of_lt h2)), Rat.le_trans h4 (Rat.mul_le_mul_of_nonneg_left q (Rat.le_of_lt h1))⟩
theorem Rel.mul {a b : Nat} {x X y Y : Rat} (h : Rel a x X) (k : Rel b y Y) : Rel (a + b) (x * y) (X * Y) := by
  obtain ⟨h1, h2, h3, h4⟩ := h
  obtain ⟨k1, k2, k3, k4⟩ := k
  refine ⟨Rat.mul_pos h1 k1, Rat.mul_pos h2 k2, ?_, ?_⟩
  · have := mul_le4 (Rat.le_of_lt h1) h3 (Rat.le_of_lt k1) k3
    rw [qp_add]; grind
  · have := mul_le4 (Rat.le_of_lt h2) h4 (Rat.le_of_lt k2) k4
    rw [qp_add]; grind
theorem Rel.inv {a : Nat} {x X : Rat} (h : Rel a x X) : Rel a x⁻¹ X⁻¹ := by
  obtain ⟨h1, h2, h3, h4⟩ := h
  have i1 := Rat.inv_pos.2 h1
  have i2 := Rat.inv_pos.2 h2
  have e1 : x * x⁻¹ = 1 := Rat.mul_inv_cancel _ (by grind)
  have e2 : X * X⁻¹ = 1 := Rat.mul_inv_cancel _ (by grind)
  have p := Rat.mul_nonneg (Rat.le_of_lt i1) (Rat.le_of_lt i2)
  have m1 := Rat.mul_le_mul_of_nonneg_left h3 p
  have m2 := Rat.mul_le_mul_of_nonneg_left h4 p
  unfold Rel
  generalize x⁻¹ = u at *
  generalize X⁻¹ = U at *
  generalize qp a = q at *
  refine ⟨i1, i2, ?_, ?_⟩
  · have : u * U * X = u := by grind
    have : u * U * (x * q) = U * q := by grind
    grind
  · have : u * U * x = U := by grind
    have : u * U * (X * q) = u * q := by grind
    grind
theorem Rel.div {a b : Nat} {x X y Y : Rat} (h : Rel a x X) (k : Rel b y Y) : Rel (a + b) (x / y) (X / Y) := by
  rw [Rat.div_def, Rat.div_def]
  exact h.mul k.inv
theorem Rel.add {a : Nat} {x X y Y : Rat} (h : Rel a x X) (k : Rel a y Y) : Rel a (x + y) (X + Y) := by
  obtain ⟨h1, h2, h3, h4⟩ := h
  obtain ⟨k1, k2, k3, k4⟩ := k
  refine ⟨by grind, by grind, by grind, by grind⟩
theorem Rel.trans {a b : Nat} {x y z : Rat} (h : Rel a x y) (k : Rel b y z) : Rel (a + b) x z := by
  obtain ⟨h1, h2, h3, h4⟩ := h
  obtain ⟨k1, k2, k3, k4⟩ := k
  refine ⟨h1, k2, ?_, ?_⟩
  · have := Rat.mul_le_mul_of_nonneg_right k3 (show 0 ≤ qp a by have := qp_one a; grind)
    rw [qp_add]; grind
  · have := Rat.mul_le_mul_of_nonneg_right h4 (show 0 ≤ qp b by have := qp_one b; grind)
    rw [qp_add]; grind
theorem Rel.two {a : Nat} {x X : Rat} (h : Rel a x X) (ha : a ≤ 8000000) : x ≤ X * (1 + 1 / 10000000) ∧ X ≤ x * (1 + 1 / 10000000) := by
  obtain ⟨h1, h2, h3, h4⟩ := h
  have q := qp_small ha
  exact ⟨Rat.le_trans h3 (Rat.mul_le_mul_of_nonneg_left q (Rat.le_of_lt h2)), Rat.le_trans h4 (Rat.mul_le_mul_of_nonneg_left q (Rat.le_of_lt h1))⟩
theorem rel_of {x X : Rat} (hX : 0 < X) (h1 : x - X ≤ 5 / 1000000000000000 * X) (h2 : X - x ≤ 5 / 1000000000000000 * X) : Rel 1 x X := by
  have q1 : qp 1 = 1 + 1 / 100000000000000 := by simp only [qp, qq_v]; grind
  unfold Rel
  rw [q1]
  refine ⟨by grind, hX, by grind, by grind⟩

theorem mul_rel {x y : Nat} (hx : isNum .f64 x) (hy : isNum .f64 y) (lo : 1 / 100000000000000 ≤ val .f64 x * val .f64 y) (hi : val .f64 x * val .f64 y ≤ 40000000000000000000) : ∃ r, floatBits .mul .f64 x y = some r ∧ isNum .f64 r ∧ Rel 1 (val .f64 r) (val .f64 x * val .f64 y) := by
  obtain ⟨r, hr, nr, r1, r2⟩ := mul_val hx hy (val .f64 x * val .f64 y) (Rat.le_refl) (by grind) (Rat.le_trans (by grind) top64)
  have e1v : e1 .f64 = 1 / 1000000000000000 := rfl
  have e2v : e2 = 1 / 1000000000000000000000000000000 := rfl
  rw [e1v, e2v] at r1 r2
  exact ⟨r, hr, nr, rel_of (by grind) (by grind) (by grind)⟩
theorem add_rel {x y : Nat} (hx : isNum .f64 x) (hy : isNum .f64 y) (lo : 1 / 100000000000000 ≤ val .f64 x + val .f64 y) (hi : val .f64 x + val .f64 y ≤ 40000000000000000000) : ∃ r, floatBits .add .f64 x y = some r ∧ isNum .f64 r ∧ Rel 1 (val .f64 r) (val .f64 x + val .f64 y) := by
  obtain ⟨r, hr, nr, r1, r2⟩ := add_val hx hy (val .f64 x + val .f64 y) (Rat.le_refl) (by grind) (Rat.le_trans (by grind) top64)
  have e1v : e1 .f64 = 1 / 1000000000000000 := rfl
  have e2v : e2 = 1 / 1000000000000000000000000000000 := rfl
  rw [e1v, e2v] at r1 r2
  exact ⟨r, hr, nr, rel_of (by grind) (by grind) (by grind)⟩
theorem quo_rel {x y : Nat} (hx : isNum .f64 x) (hy : isNum .f64 y) (hy0 : val .f64 y ≠ 0) (lo : 1 / 100000000000000 ≤ val .f64 x / val .f64 y) (hi : val .f64 x / val .f64 y ≤ 40000000000000000000) : ∃ r, floatBits .quo .f64 x y = some r ∧ isNum .f64 r ∧ Rel 1 (val .f64 r) (val .f64 x / val .f64 y) := by
  obtain ⟨r, hr, nr, r1, r2⟩ := quo_val hx hy hy0 (val .f64 x / val .f64 y) (Rat.le_refl) (by grind) (Rat.le_trans (by grind) top64)
  have e1v : e1 .f64 = 1 / 1000000000000000 := rfl
  have e2v : e2 = 1 / 1000000000000000000000000000000 := rfl
  rw [e1v, e2v] at r1 r2
  exact ⟨r, hr, nr, rel_of (by grind) (by grind) (by grind)⟩
theorem mul_nil {x y : Nat} (hx : isNum .f64 x) (hy : isNum .f64 y) (h : val .f64 x * val .f64 y = 0) : ∃ r, floatBits .mul .f64 x y = some r ∧ isNum .f64 r ∧ val .f64 r = 0 := by
  have t0 : (0 : Rat) ≤ p2 (top .f64) := Rat.le_of_lt (p2_pos _)
  obtain ⟨r, hr, nr, _⟩ := mul_val hx hy 0 (by grind) (by grind) t0
  obtain ⟨m1, m2⟩ := mul_mono hx hy 0 (by grind) (by grind) t0 hr num_0
  rw [val_0] at m1 m2
  have := m1 (by grind)
  have := m2 (by grind)
  exact ⟨r, hr, nr, by grind⟩
theorem add_keep {x y : Nat} (hx : isNum .f64 x) (hy : isNum .f64 y) (h : val .f64 y = 0) (h1 : val .f64 x ≤ 80000000000000000000) (h2 : -80000000000000000000 ≤ val .f64 x) : ∃ r, floatBits .add .f64 x y = some r ∧ isNum .f64 r ∧ val .f64 r = val .f64 x := by
  have t0 : (80000000000000000000 : Rat) ≤ p2 (top .f64) := Rat.le_trans (by grind) top64
  obtain ⟨r, hr, nr, _⟩ := add_val hx hy 80000000000000000000 (by grind) (by grind) t0
  obtain ⟨m1, m2⟩ := add_mono hx hy 80000000000000000000 (by grind) (by grind) t0 hr hx
  have := m1 (by grind)
  have := m2 (by grind)
  exact ⟨r, hr, nr, by grind⟩
theorem add_keep' {x y : Nat} (hx : isNum .f64 x) (hy : isNum .f64 y) (h : val .f64 x = 0) (h1 : val .f64 y ≤ 80000000000000000000) (h2 : -80000000000000000000 ≤ val .f64 y) : ∃ r, floatBits .add .f64 x y = some r ∧ isNum .f64 r ∧ val .f64 r = val .f64 y := by
  have t0 : (80000000000000000000 : Rat) ≤ p2 (top .f64) := Rat.le_trans (by grind) top64
  obtain ⟨r, hr, nr, _⟩ := add_val hx hy 80000000000000000000 (by grind) (by grind) t0
  obtain ⟨m1, m2⟩ := add_mono hx hy 80000000000000000000 (by grind) (by grind) t0 hr hy
  have := m1 (by grind)
  have := m2 (by grind)
  exact ⟨r, hr, nr, by grind⟩
theorem sub_keep {x y : Nat} (hx : isNum .f64 x) (hy : isNum .f64 y) (h : val .f64 y = 0) (h1 : val .f64 x ≤ 80000000000000000000) (h2 : -80000000000000000000 ≤ val .f64 x) : ∃ r, floatBits .sub .f64 x y = some r ∧ isNum .f64 r ∧ val .f64 r = val .f64 x := by
  have t0 : (80000000000000000000 : Rat) ≤ p2 (top .f64) := Rat.le_trans (by grind) top64
  obtain ⟨r, hr, nr, _⟩ := sub_val hx hy 80000000000000000000 (by grind) (by grind) t0
  obtain ⟨m1, m2⟩ := sub_mono hx hy 80000000000000000000 (by grind) (by grind) t0 hr hx
  have := m1 (by grind)
  have := m2 (by grind)
  exact ⟨r, hr, nr, by grind⟩
theorem val_nil {x : Nat} {s : Bool} {m : Nat} {e : Int} (h : FloatKind.f64.format.read x = .number s m e) (h0 : val .f64 x = 0) : m = 0 := by
  unfold val at h0
  rw [h] at h0
  simp only [dval] at h0
  have hp := p2_pos e
  by_cases hm : m = 0
  · exact hm
  · have hm0 : (0 : Rat) < (m : Rat) := by exact_mod_cast Nat.pos_of_ne_zero hm
    have hq := Rat.mul_pos hm0 hp
    cases s <;> simp only [sg] at h0 <;> grind
theorem quo_nil {x y : Nat} (hx : isNum .f64 x) (hy : isNum .f64 y) (h : val .f64 x = 0) (hy0 : val .f64 y ≠ 0) : ∃ r, floatBits .quo .f64 x y = some r ∧ isNum .f64 r ∧ val .f64 r = 0 := by
  have hz : val .f64 x / val .f64 y = 0 := by rw [h, Rat.div_def]; grind
  obtain ⟨r, hr, nr, _⟩ := quo_val hx hy hy0 0 (by rw [hz]; grind) (by rw [hz]; grind) (by have := p2_pos (top .f64); grind)
  refine ⟨r, hr, nr, ?_⟩
  obtain ⟨s, m, i, ha⟩ := hx
  obtain ⟨t, n, j, hb⟩ := hy
  have hm := val_nil ha h
  subst hm
  have hn : n ≠ 0 := by
    intro hn
    subst hn
    apply hy0
    unfold val
    rw [hb]
    simp only [dval]
    grind
  simp only [floatBits, Ieee.Format.div, ha, hb, Ieee.Datum.quotient] at hr
  rw [if_neg hn] at hr
  simp only [Nat.zero_shiftLeft, Nat.zero_div, Nat.zero_mod, Option.map_some, Option.some.injEq] at hr
  have hmono := mono_dat .f64 (s ^^ t) 0 (i - j - ((FloatKind.f64.format.fractionBits + 2 + n.log2 - Nat.log2 0 : Nat) : Int) - 1) (by have := p2_pos (top .f64); simp; grind) num_0
  have hd : dval (.number (s ^^ t) 0 (i - j - ((FloatKind.f64.format.fractionBits + 2 + n.log2 - Nat.log2 0 : Nat) : Int) - 1)) = 0 := by simp only [dval]; grind
  rw [hd, val_0] at hmono
  have e : r = FloatKind.f64.format.write (.number (s ^^ t) 0 (i - j - ((FloatKind.f64.format.fractionBits + 2 + n.log2 - Nat.log2 0 : Nat) : Int) - 1)) := by rw [← hr]; rfl
  rw [e]
  have := hmono.1 (by grind)
  have := hmono.2 (by grind)
  grind
end Go.Proofs.Ytgocgcnpgmamiaa
