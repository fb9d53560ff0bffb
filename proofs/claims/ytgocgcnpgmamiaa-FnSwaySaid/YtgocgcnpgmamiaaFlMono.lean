/-
  Rounding goes past no floating number.
-/
import Derived.Test.YtgocgcnpgmamiaaFlOps
namespace Go.Proofs.Ytgocgcnpgmamiaa
open Go.ChangeShapes Go.WideShapes Go.ChangeAt Go.RowKit
set_option linter.unusedVariables false
set_option linter.unusedSimpArgs false

theorem read_bounds {f : Ieee.Format} {x : Nat} {s : Bool} {m : Nat} {e : Int} (h : f.read x = .number s m e) : m < 2 * f.binade ∧ f.leastPlace ≤ e := by
  have hb0 : 0 < f.binade := Nat.two_pow_pos _
  unfold Ieee.Format.read at h
  dsimp only at h
  split at h
  · cases h
    omega
  · split at h
    · cases h
      have := Nat.mod_lt (x % f.signWeight) hb0
      omega
    · split at h <;> cases h
theorem two_bin (f : Ieee.Format) : ((2 * f.binade : Nat) : Rat) = p2 (f.fractionBits + 1) := by
  unfold Ieee.Format.binade
  rw [show (f.fractionBits : Int) + 1 = ((f.fractionBits + 1 : Nat) : Int) by omega, p2_nat, Nat.pow_succ, Nat.mul_comm]
theorem kpt_near (f : Ieee.Format) (neg : Bool) (mag : Nat) (place : Int) (N : Int) :
    ((mag : Rat) * p2 place ≤ (N : Rat) * p2 (lst f mag place) → (kpt f neg mag place : Int) ≤ N) ∧ ((N : Rat) * p2 (lst f mag place) ≤ (mag : Rat) * p2 place → N ≤ (kpt f neg mag place : Int)) := by
  obtain ⟨h1, h2⟩ := kpt_err f neg mag place
  have hp := p2_pos (lst f mag place)
  generalize p2 (lst f mag place) = P at *
  generalize kpt f neg mag place = k at *
  constructor
  · intro h
    have h3 : (2 * (k : Rat) - 2 * (N : Rat) - 1) * P ≤ 0 * P := by grind
    have h4 := Rat.le_of_mul_le_mul_right h3 hp
    have h5 : 2 * (k : Rat) ≤ 2 * (N : Rat) + 1 := by grind
    have h6 : 2 * (k : Int) ≤ 2 * N + 1 := by exact_mod_cast h5
    omega
  · intro h
    have h3 : (2 * (N : Rat) - 2 * (k : Rat) - 1) * P ≤ 0 * P := by grind
    have h4 := Rat.le_of_mul_le_mul_right h3 hp
    have h5 : 2 * (N : Rat) ≤ 2 * (k : Rat) + 1 := by grind
    have h6 : 2 * N ≤ 2 * (k : Int) + 1 := by exact_mod_cast h5
    omega
theorem mono_mag (f : Ieee.Format) (neg : Bool) (mag : Nat) (place : Int) (hm : mag ≠ 0) (M : Nat) (E : Int) (hM : M < 2 * f.binade) (hE : f.leastPlace ≤ E) :
    ((mag : Rat) * p2 place ≤ (M : Rat) * p2 E → (kpt f neg mag place : Rat) * p2 (lst f mag place) ≤ (M : Rat) * p2 E) ∧ ((M : Rat) * p2 E ≤ (mag : Rat) * p2 place → (M : Rat) * p2 E ≤ (kpt f neg mag place : Rat) * p2 (lst f mag place)) := by
  have hp := p2_pos (lst f mag place)
  by_cases hEl : lst f mag place ≤ E
  · have e : p2 E = ((2 ^ (E - lst f mag place).toNat : Nat) : Rat) * p2 (lst f mag place) := by
      rw [← p2_nat, ← p2_add]
      congr 1
      omega
    obtain ⟨h1, h2⟩ := kpt_near f neg mag place ((M * 2 ^ (E - lst f mag place).toNat : Nat) : Int)
    have e2 : (((M * 2 ^ (E - lst f mag place).toNat : Nat) : Int) : Rat) = (M : Rat) * ((2 ^ (E - lst f mag place).toNat : Nat) : Rat) := by
      rw [show (((M * 2 ^ (E - lst f mag place).toNat : Nat) : Int) : Rat) = ((M * 2 ^ (E - lst f mag place).toNat : Nat) : Rat) from rfl]
      simp
    rw [e2] at h1 h2
    rw [e]
    constructor
    · intro h
      have h3 := h1 (by grind)
      have h4 : (kpt f neg mag place : Rat) ≤ (M : Rat) * ((2 ^ (E - lst f mag place).toNat : Nat) : Rat) := by
        rw [← e2]
        exact_mod_cast h3
      have h5 := Rat.mul_le_mul_of_nonneg_right h4 (Rat.le_of_lt hp)
      grind
    · intro h
      have h3 := h2 (by grind)
      have h4 : (M : Rat) * ((2 ^ (E - lst f mag place).toNat : Nat) : Rat) ≤ (kpt f neg mag place : Rat) := by
        rw [← e2]
        exact_mod_cast h3
      have h5 := Rat.mul_le_mul_of_nonneg_right h4 (Rat.le_of_lt hp)
      grind
  · have hlt : f.leastPlace < lst f mag place := by omega
    have hl : lst f mag place = place + mag.log2 - f.fractionBits := by unfold lst at *; omega
    have hME : (M : Rat) * p2 E < p2 (place + mag.log2) := by
      have h1 : (M : Rat) < ((2 * f.binade : Nat) : Rat) := by exact_mod_cast hM
      have h2 := Rat.mul_lt_mul_of_pos_right h1 (p2_pos E)
      rw [two_bin, ← p2_add] at h2
      have h3 := p2_le (show (f.fractionBits : Int) + 1 + E ≤ place + mag.log2 by omega)
      grind
    have hlog := p2_log mag place hm
    constructor
    · intro h
      grind
    · intro _
      have hk := kpt_ge f neg mag place hm hlt
      have h1 : ((f.binade : Nat) : Rat) ≤ (kpt f neg mag place : Rat) := by exact_mod_cast hk
      have h2 := Rat.mul_le_mul_of_nonneg_right h1 (Rat.le_of_lt hp)
      have h3 : ((f.binade : Nat) : Rat) * p2 (lst f mag place) = p2 (place + mag.log2) := by
        unfold Ieee.Format.binade
        rw [← p2_nat, ← p2_add, hl]
        congr 1
        omega
      grind
theorem hov_of {k : FloatKind} {mag : Nat} {place : Int} (hm : mag ≠ 0) (hx : (mag : Rat) * p2 place ≤ p2 (top k)) : (lst k.format mag place - k.format.leastPlace).toNat + 2 < 2 ^ k.format.exponentBits - 1 := by
  have hpl := p2_of_le (Rat.le_trans (p2_log mag place hm) hx)
  cases k with
  | f32 =>
    have h1 : FloatKind.f32.format.leastPlace = -149 := rfl
    have h2 : FloatKind.f32.format.exponentBits = 8 := rfl
    have h3 : (FloatKind.f32.format.fractionBits : Int) = 23 := rfl
    have h4 : top .f32 = 120 := rfl
    unfold lst
    rw [h1, h2, h3]
    rw [h4] at hpl
    omega
  | f64 =>
    have h1 : FloatKind.f64.format.leastPlace = -1074 := rfl
    have h2 : FloatKind.f64.format.exponentBits = 11 := rfl
    have h3 : (FloatKind.f64.format.fractionBits : Int) = 52 := rfl
    have h4 : top .f64 = 1000 := rfl
    unfold lst
    rw [h1, h2, h3]
    rw [h4] at hpl
    omega
/-- what is not above a floating number is not rounded above it; and from below -/
theorem mono_dat (k : FloatKind) (s : Bool) (m : Nat) (e : Int) (hx : (m : Rat) * p2 e ≤ p2 (top k)) {y : Nat} (hy : isNum k y) :
    (dval (.number s m e) ≤ val k y → val k (k.format.write (.number s m e)) ≤ val k y) ∧ (val k y ≤ dval (.number s m e) → val k y ≤ val k (k.format.write (.number s m e))) := by
  obtain ⟨t, M, E, hr⟩ := hy
  obtain ⟨hM, hE⟩ := read_bounds hr
  have hvy : val k y = sg t * ((M : Rat) * p2 E) := by unfold val; rw [hr]; rfl
  have hM0 : 0 ≤ (M : Rat) * p2 E := Rat.mul_nonneg (by exact_mod_cast Nat.zero_le M) (Rat.le_of_lt (p2_pos E))
  by_cases hm : m = 0
  · subst hm
    obtain ⟨_, d, hv, h1, h2⟩ := near_num k s 0 e hx
    have hr0 : k.format.read (k.format.write (.number s 0 e)) = .number s 0 k.format.leastPlace := by
      have hb0 : 0 < k.format.binade := Nat.two_pow_pos _
      have hs := k.format.infRung_lt
      show k.format.read (k.format.nearest s 0 e) = _
      unfold Ieee.Format.nearest
      rw [if_pos rfl]
      obtain ⟨w1, w2⟩ := word_parts k.format s 0 (by omega)
      unfold Ieee.Format.read
      simp only [w1, w2]
      rw [if_pos hb0]
    have hv0 : val k (k.format.write (.number s 0 e)) = 0 := by
      unfold val
      rw [hr0]
      simp only [dval]
      grind
    rw [hv0]
    simp only [dval]
    constructor <;> intro h <;> grind
  · obtain ⟨m', e', hrd, hv⟩ := near_read k.format s m e hm (hov_of hm hx)
    have hval : val k (k.format.write (.number s m e)) = sg s * ((kpt k.format s m e : Rat) * p2 (lst k.format m e)) := by
      unfold val
      rw [show k.format.read (k.format.write (.number s m e)) = .number s m' e' from hrd]
      show sg s * ((m' : Rat) * p2 e') = _
      rw [hv]
    obtain ⟨a1, a2⟩ := mono_mag k.format s m e hm M E hM hE
    have hK0 : 0 ≤ (kpt k.format s m e : Rat) * p2 (lst k.format m e) := Rat.mul_nonneg (by exact_mod_cast Nat.zero_le _) (Rat.le_of_lt (p2_pos _))
    have hX0 : 0 < (m : Rat) * p2 e := Rat.mul_pos (by exact_mod_cast Nat.pos_of_ne_zero hm) (p2_pos e)
    rw [hval, hvy]
    simp only [dval]
    generalize (kpt k.format s m e : Rat) * p2 (lst k.format m e) = Kp at *
    generalize (M : Rat) * p2 E = Y at *
    generalize (m : Rat) * p2 e = X at *
    constructor
    · intro h
      cases s <;> cases t <;> simp only [sg] at h ⊢ <;> grind
    · intro h
      cases s <;> cases t <;> simp only [sg] at h ⊢ <;> grind

theorem mag_of {s : Bool} {m : Nat} {e : Int} {M : Rat} (h1 : dval (.number s m e) ≤ M) (h2 : -dval (.number s m e) ≤ M) : (m : Rat) * p2 e ≤ M := by
  simp only [dval] at h1 h2
  have : 0 ≤ (m : Rat) * p2 e := Rat.mul_nonneg (by exact_mod_cast Nat.zero_le m) (Rat.le_of_lt (p2_pos e))
  cases s <;> simp only [sg] at h1 h2 <;> grind
theorem add_mono {k : FloatKind} {x y r : Nat} (hx : isNum k x) (hy : isNum k y) (M : Rat) (h1 : val k x + val k y ≤ M) (h2 : -(val k x + val k y) ≤ M) (hM : M ≤ p2 (top k)) (hr : floatBits .add k x y = some r) {z : Nat} (hz : isNum k z) :
    (val k x + val k y ≤ val k z → val k r ≤ val k z) ∧ (val k z ≤ val k x + val k y → val k z ≤ val k r) := by
  obtain ⟨s, m, e, ha⟩ := hx
  obtain ⟨t, n, j, hb⟩ := hy
  obtain ⟨s', m', e', hs, hv⟩ := sum_val ha hb
  have hv2 : dval (.number s' m' e') = val k x + val k y := hv
  have : r = k.format.write (.number s' m' e') := by
    simp only [floatBits, Ieee.Format.add, hs, Option.map_some, Option.some.injEq] at hr
    exact hr.symm
  subst this
  have := mono_dat k s' m' e' (Rat.le_trans (mag_of (by rw [hv2]; exact h1) (by rw [hv2]; exact h2)) hM) hz
  rw [hv2] at this
  exact this
theorem mul_mono {k : FloatKind} {x y r : Nat} (hx : isNum k x) (hy : isNum k y) (M : Rat) (h1 : val k x * val k y ≤ M) (h2 : -(val k x * val k y) ≤ M) (hM : M ≤ p2 (top k)) (hr : floatBits .mul k x y = some r) {z : Nat} (hz : isNum k z) :
    (val k x * val k y ≤ val k z → val k r ≤ val k z) ∧ (val k z ≤ val k x * val k y → val k z ≤ val k r) := by
  obtain ⟨s, m, e, ha⟩ := hx
  obtain ⟨t, n, j, hb⟩ := hy
  have hv : dval (.number (s ^^ t) (m * n) (e + j)) = val k x * val k y := by
    unfold val
    rw [ha, hb]
    simp only [dval, sg_mul, p2_add]
    have e2 : ((m * n : Nat) : Rat) = (m : Rat) * (n : Rat) := by simp
    rw [e2]
    grind
  have : r = k.format.write (.number (s ^^ t) (m * n) (e + j)) := by
    simp only [floatBits, Ieee.Format.mul, ha, hb, Ieee.Datum.product, Option.map_some, Option.some.injEq] at hr
    exact hr.symm
  subst this
  have := mono_dat k (s ^^ t) (m * n) (e + j) (Rat.le_trans (mag_of (by rw [hv]; exact h1) (by rw [hv]; exact h2)) hM) hz
  rw [hv] at this
  exact this
theorem sub_mono {k : FloatKind} {x y r : Nat} (hx : isNum k x) (hy : isNum k y) (M : Rat) (h1 : val k x - val k y ≤ M) (h2 : -(val k x - val k y) ≤ M) (hM : M ≤ p2 (top k)) (hr : floatBits .sub k x y = some r) {z : Nat} (hz : isNum k z) :
    (val k x - val k y ≤ val k z → val k r ≤ val k z) ∧ (val k z ≤ val k x - val k y → val k z ≤ val k r) := by
  obtain ⟨s, m, e, ha⟩ := hx
  obtain ⟨t, n, j, hb⟩ := hy
  have hb' : (k.format.read y).opposite = .number (!t) n j := by rw [hb]; rfl
  obtain ⟨s', m', e', hs, hv⟩ := sum_val ha hb'
  have hv2 : dval (.number s' m' e') = val k x - val k y := by rw [hv, opp_val]; unfold val; grind
  have : r = k.format.write (.number s' m' e') := by
    simp only [floatBits, Ieee.Format.sub, hs, Option.map_some, Option.some.injEq] at hr
    exact hr.symm
  subst this
  have := mono_dat k s' m' e' (Rat.le_trans (mag_of (by rw [hv2]; exact h1) (by rw [hv2]; exact h2)) hM) hz
  rw [hv2] at this
  exact this
end Go.Proofs.Ytgocgcnpgmamiaa
