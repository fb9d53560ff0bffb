/-
  How far a result is from what it stands for.
-/
import Derived.Test.YtgocgcnpgmamiaaFlVal
namespace Go.Proofs.Ytgocgcnpgmamiaa
open Go.ChangeShapes Go.WideShapes Go.ChangeAt Go.RowKit
set_option linter.unusedVariables false
set_option linter.unusedSimpArgs false

theorem p2_lt {a b : Int} (h : a < b) : p2 a < p2 b := by
  have h1 := p2_le (show a + 1 ≤ b by omega)
  rw [p2_add] at h1
  have h2 : p2 1 = 2 := rfl
  have h3 := p2_pos a
  rw [h2] at h1
  grind
theorem p2_of_le {a b : Int} (h : p2 a ≤ p2 b) : a ≤ b := by
  by_cases hab : a ≤ b
  · exact hab
  · have := p2_lt (show b < a by omega)
    grind
theorem p2_log (mag : Nat) (place : Int) (h : mag ≠ 0) : p2 (place + mag.log2) ≤ (mag : Rat) * p2 place := by
  rw [p2_add, p2_nat]
  have h1 : ((2 ^ mag.log2 : Nat) : Rat) ≤ (mag : Rat) := by exact_mod_cast Nat.log2_self_le h
  have h2 := Rat.mul_le_mul_of_nonneg_right h1 (Rat.le_of_lt (p2_pos place))
  grind
theorem p2_m52 : p2 (-52) ≤ 1 / 1000000000000000 := by
  have h1 := p2_sub 0 52
  have h2 : p2 52 = 4503599627370496 := by rw [show (52 : Int) = ((52 : Nat) : Int) from rfl, p2_nat]; rfl
  have h3 : p2 0 = 1 := rfl
  rw [show (0 : Int) - 52 = -52 by omega, h2, h3] at h1
  grind
theorem p2_m23 : p2 (-23) ≤ 1 / 5000000 := by
  have h1 := p2_sub 0 23
  have h2 : p2 23 = 8388608 := by rw [show (23 : Int) = ((23 : Nat) : Int) from rfl, p2_nat]; rfl
  have h3 : p2 0 = 1 := rfl
  rw [show (0 : Int) - 23 = -23 by omega, h2, h3] at h1
  grind
theorem p2_m149 : p2 (-149) ≤ 1 / 1000000000000000000000000000000 := by
  have h1 := p2_sub 0 149
  have h2 : p2 149 = 713623846352979940529142984724747568191373312 := by rw [show (149 : Int) = ((149 : Nat) : Int) from rfl, p2_nat]; rfl
  have h3 : p2 0 = 1 := rfl
  rw [show (0 : Int) - 149 = -149 by omega, h2, h3] at h1
  grind
theorem p2_m1074 : p2 (-1074) ≤ 1 / 1000000000000000000000000000000 := Rat.le_trans (p2_le (by omega)) p2_m149
/-- the far ends of a kind, and how fine it is -/
def top (k : FloatKind) : Int := match k with | .f32 => 120 | .f64 => 1000
def e1 (k : FloatKind) : Rat := match k with | .f32 => 1 / 10000000 | .f64 => 1 / 1000000000000000
def e2 : Rat := 1 / 1000000000000000000000000000000
theorem e1_pos (k : FloatKind) : 0 ≤ e1 k := by cases k <;> simp only [e1] <;> grind
theorem e2_pos : 0 ≤ e2 := by unfold e2; grind
theorem near_num (k : FloatKind) (neg : Bool) (mag : Nat) (place : Int) (hx : (mag : Rat) * p2 place ≤ p2 (top k)) :
    isNum k (k.format.write (.number neg mag place)) ∧ ∃ d, val k (k.format.write (.number neg mag place)) = sg neg * ((mag : Rat) * p2 place + d) ∧ d ≤ e1 k * ((mag : Rat) * p2 place) + e2 ∧ -d ≤ e1 k * ((mag : Rat) * p2 place) + e2 := by
  by_cases hm : mag = 0
  · subst hm
    have hr : k.format.read (k.format.write (.number neg 0 place)) = .number neg 0 k.format.leastPlace := by
      have hb0 : 0 < k.format.binade := Nat.two_pow_pos _
      have hs := k.format.infRung_lt
      show k.format.read (k.format.nearest neg 0 place) = _
      unfold Ieee.Format.nearest
      rw [if_pos rfl]
      obtain ⟨w1, w2⟩ := word_parts k.format neg 0 (by omega)
      unfold Ieee.Format.read
      simp only [w1, w2]
      rw [if_pos hb0]
    refine ⟨⟨_, _, _, hr⟩, 0, ?_, ?_, ?_⟩
    · unfold val
      rw [hr]
      simp only [dval]
      grind
    · have := e1_pos k; have := e2_pos; simp; grind
    · have := e1_pos k; have := e2_pos; simp; grind
  · have hlog := p2_log mag place hm
    have hpl := p2_of_le (Rat.le_trans hlog hx)
    have hov : (lst k.format mag place - k.format.leastPlace).toNat + 2 < 2 ^ k.format.exponentBits - 1 := by
      cases k with
      | f32 =>
        have h1 : FloatKind.f32.format.leastPlace = -149 := rfl
        have h2 : FloatKind.f32.format.exponentBits = 8 := rfl
        have h3 : (FloatKind.f32.format.fractionBits : Int) = 23 := rfl
        have h4 : top .f32 = 120 := rfl
        unfold lst
        rw [h1, h2, h3]
        rw [h4] at hpl
        omega
      | f64 =>
        have h1 : FloatKind.f64.format.leastPlace = -1074 := rfl
        have h2 : FloatKind.f64.format.exponentBits = 11 := rfl
        have h3 : (FloatKind.f64.format.fractionBits : Int) = 52 := rfl
        have h4 : top .f64 = 1000 := rfl
        unfold lst
        rw [h1, h2, h3]
        rw [h4] at hpl
        omega
    obtain ⟨m', e', hr, hv⟩ := near_read k.format neg mag place hm hov
    obtain ⟨h1, h2⟩ := kpt_err k.format neg mag place
    refine ⟨⟨_, _, _, hr⟩, (kpt k.format neg mag place : Rat) * p2 (lst k.format mag place) - (mag : Rat) * p2 place, ?_, ?_⟩
    · unfold val
      rw [show k.format.read (k.format.write (.number neg mag place)) = .number neg m' e' from hr]
      show sg neg * ((m' : Rat) * p2 e') = _
      rw [hv]
      grind
    · have hp : p2 (lst k.format mag place) ≤ 2 * (e1 k * ((mag : Rat) * p2 place) + e2) := by
        generalize hxx : (mag : Rat) * p2 place = X at *
        have hX : 0 ≤ X := Rat.le_trans (Rat.le_of_lt (p2_pos _)) hlog
        cases k with
        | f32 =>
          have a1 : FloatKind.f32.format.leastPlace = -149 := rfl
          have a3 : (FloatKind.f32.format.fractionBits : Int) = 23 := rfl
          unfold lst
          rw [a1, a3]
          have e23 := p2_m23
          have e149 := p2_m149
          show _ ≤ 2 * (1 / 10000000 * X + 1 / 1000000000000000000000000000000)
          rcases Int.le_total (place + (mag.log2 : Int) - 23) (-149) with h | h
          · rw [Int.max_eq_right h]
            grind
          · rw [Int.max_eq_left h, show place + (mag.log2 : Int) - 23 = (place + (mag.log2 : Int)) + -23 by omega, p2_add]
            have b1 := Rat.mul_le_mul_of_nonneg_right hlog (Rat.le_of_lt (p2_pos (-23)))
            have b2 := Rat.mul_le_mul_of_nonneg_left e23 hX
            grind
        | f64 =>
          have a1 : FloatKind.f64.format.leastPlace = -1074 := rfl
          have a3 : (FloatKind.f64.format.fractionBits : Int) = 52 := rfl
          unfold lst
          rw [a1, a3]
          have e52 := p2_m52
          have e149 := p2_m1074
          show _ ≤ 2 * (1 / 1000000000000000 * X + 1 / 1000000000000000000000000000000)
          rcases Int.le_total (place + (mag.log2 : Int) - 52) (-1074) with h | h
          · rw [Int.max_eq_right h]
            grind
          · rw [Int.max_eq_left h, show place + (mag.log2 : Int) - 52 = (place + (mag.log2 : Int)) + -52 by omega, p2_add]
            have b1 := Rat.mul_le_mul_of_nonneg_right hlog (Rat.le_of_lt (p2_pos (-52)))
            have b2 := Rat.mul_le_mul_of_nonneg_left e52 hX
            grind
      constructor <;> grind

/-- a result that is near to X -/
def Nr (k : FloatKind) (r : Nat) (X d : Rat) : Prop := isNum k r ∧ val k r - X ≤ d ∧ X - val k r ≤ d
theorem Nr.self {k : FloatKind} {r : Nat} (h : isNum k r) : Nr k r (val k r) 0 := ⟨h, by grind, by grind⟩
theorem near_dat (k : FloatKind) (d : Ieee.Datum) (s : Bool) (m : Nat) (e : Int) (hd : d = .number s m e) (M : Rat) (h1 : dval d ≤ M) (h2 : -dval d ≤ M) (hM : M ≤ p2 (top k)) : Nr k (k.format.write d) (dval d) (e1 k * M + e2) := by
  subst hd
  have hp : 0 ≤ (m : Rat) * p2 e := Rat.mul_nonneg (by exact_mod_cast Nat.zero_le m) (Rat.le_of_lt (p2_pos e))
  have hA : (m : Rat) * p2 e ≤ M := by
    simp only [dval] at h1 h2
    cases s <;> simp only [sg] at h1 h2 <;> grind
  obtain ⟨hn, d, hv, hd1, hd2⟩ := near_num k s m e (Rat.le_trans hA hM)
  have hm := Rat.mul_le_mul_of_nonneg_left hA (e1_pos k)
  refine ⟨hn, ?_, ?_⟩
  · rw [hv]
    simp only [dval]
    cases s <;> simp only [sg] <;> grind
  · rw [hv]
    simp only [dval]
    cases s <;> simp only [sg] <;> grind
theorem signed_val (s : Bool) (m : Nat) (e base : Int) (h : base ≤ e) : ((Ieee.signed s m (e - base).toNat : Int) : Rat) * p2 base = sg s * ((m : Rat) * p2 e) := by
  have he : p2 e = ((2 ^ (e - base).toNat : Nat) : Rat) * p2 base := by
    rw [← p2_nat, ← p2_add]
    congr 1
    omega
  unfold Ieee.signed
  rw [Nat.shiftLeft_eq, he]
  have e2 : ((m * 2 ^ (e - base).toNat : Nat) : Rat) = (m : Rat) * ((2 ^ (e - base).toNat : Nat) : Rat) := by simp
  cases s
  · rw [if_neg (by simp)]
    rw [show (((m * 2 ^ (e - base).toNat : Nat) : Int) : Rat) = ((m * 2 ^ (e - base).toNat : Nat) : Rat) from rfl, e2]
    simp only [sg]
    grind
  · rw [if_pos rfl, Rat.intCast_neg]
    rw [show (((m * 2 ^ (e - base).toNat : Nat) : Int) : Rat) = ((m * 2 ^ (e - base).toNat : Nat) : Rat) from rfl, e2]
    simp only [sg]
    grind
theorem int_sg (t : Int) (b : Bool) (hb : t ≠ 0 → b = decide (t < 0)) : sg b * ((t.natAbs : Nat) : Rat) = (t : Rat) := by
  by_cases h0 : t = 0
  · subst h0; simp
  · rw [hb h0]
    by_cases h : t < 0
    · rw [decide_eq_true h]
      have : (t.natAbs : Int) = -t := by omega
      have h2 : ((t.natAbs : Nat) : Rat) = -(t : Rat) := by rw [← Rat.intCast_neg, ← this]; rfl
      rw [h2]
      simp only [sg]
      grind
    · rw [decide_eq_false h]
      have : (t.natAbs : Int) = t := by omega
      have h2 : ((t.natAbs : Nat) : Rat) = (t : Rat) := by
        have h3 : (((t.natAbs : Nat) : Int) : Rat) = (t : Rat) := by rw [this]
        exact h3
      rw [h2]
      simp only [sg]
      grind
theorem sum_val {a b : Ieee.Datum} {s t : Bool} {m n : Nat} {i j : Int} (ha : a = .number s m i) (hb : b = .number t n j) : ∃ s' m' e', a.sum b = some (.number s' m' e') ∧ dval (.number s' m' e') = dval a + dval b := by
  subst ha hb
  refine ⟨_, _, _, rfl, ?_⟩
  simp only [dval]
  have h1 := signed_val s m i (min i j) (Int.min_le_left _ _)
  have h2 := signed_val t n j (min i j) (Int.min_le_right _ _)
  rw [← h1, ← h2]
  generalize Ieee.signed s m (i - min i j).toNat = p
  generalize Ieee.signed t n (j - min i j).toNat = q
  have h3 := int_sg (p + q) (if p + q = 0 then s && t else decide (p + q < 0)) (fun h => by rw [if_neg h])
  rw [← Rat.add_mul, ← Rat.intCast_add, ← h3]
  grind
theorem opp_val {d : Ieee.Datum} : dval d.opposite = - dval d := by
  cases d with
  | number s m e => simp only [Ieee.Datum.opposite, dval, sg_not]; grind
  | infinity s => simp [Ieee.Datum.opposite, dval]
  | nan s f => simp [Ieee.Datum.opposite, dval]
theorem add_val {k : FloatKind} {x y : Nat} (hx : isNum k x) (hy : isNum k y) (M : Rat) (h1 : val k x + val k y ≤ M) (h2 : -(val k x + val k y) ≤ M) (hM : M ≤ p2 (top k)) : ∃ r, floatBits .add k x y = some r ∧ Nr k r (val k x + val k y) (e1 k * M + e2) := by
  obtain ⟨s, m, e, ha⟩ := hx
  obtain ⟨t, n, j, hb⟩ := hy
  obtain ⟨s', m', e', hs, hv⟩ := sum_val ha hb
  refine ⟨k.format.write (.number s' m' e'), ?_, ?_⟩
  · simp only [floatBits, Ieee.Format.add, hs, Option.map_some]
  · have := near_dat k _ s' m' e' rfl M (by rw [hv]; exact h1) (by rw [hv]; exact h2) hM
    rw [hv] at this
    exact this
theorem sub_val {k : FloatKind} {x y : Nat} (hx : isNum k x) (hy : isNum k y) (M : Rat) (h1 : val k x - val k y ≤ M) (h2 : -(val k x - val k y) ≤ M) (hM : M ≤ p2 (top k)) : ∃ r, floatBits .sub k x y = some r ∧ Nr k r (val k x - val k y) (e1 k * M + e2) := by
  obtain ⟨s, m, e, ha⟩ := hx
  obtain ⟨t, n, j, hb⟩ := hy
  have hb' : (k.format.read y).opposite = .number (!t) n j := by rw [hb]; rfl
  obtain ⟨s', m', e', hs, hv⟩ := sum_val ha hb'
  have hv2 : dval (.number s' m' e') = val k x - val k y := by rw [hv, opp_val]; unfold val; grind
  refine ⟨k.format.write (.number s' m' e'), ?_, ?_⟩
  · simp only [floatBits, Ieee.Format.sub, hs, Option.map_some]
  · have := near_dat k _ s' m' e' rfl M (by rw [hv2]; exact h1) (by rw [hv2]; exact h2) hM
    rw [hv2] at this
    exact this
theorem mul_val {k : FloatKind} {x y : Nat} (hx : isNum k x) (hy : isNum k y) (M : Rat) (h1 : val k x * val k y ≤ M) (h2 : -(val k x * val k y) ≤ M) (hM : M ≤ p2 (top k)) : ∃ r, floatBits .mul k x y = some r ∧ Nr k r (val k x * val k y) (e1 k * M + e2) := by
  obtain ⟨s, m, e, ha⟩ := hx
  obtain ⟨t, n, j, hb⟩ := hy
  have hv : dval (.number (s ^^ t) (m * n) (e + j)) = val k x * val k y := by
    unfold val
    rw [ha, hb]
    simp only [dval, sg_mul, p2_add]
    have e2 : ((m * n : Nat) : Rat) = (m : Rat) * (n : Rat) := by simp
    rw [e2]
    grind
  refine ⟨k.format.write (.number (s ^^ t) (m * n) (e + j)), ?_, ?_⟩
  · simp only [floatBits, Ieee.Format.mul, ha, hb, Ieee.Datum.product, Option.map_some]
  · have := near_dat k _ _ _ _ rfl M (by rw [hv]; exact h1) (by rw [hv]; exact h2) hM
    rw [hv] at this
    exact this

theorem quo_dat (digits m n : Nat) (i j : Int) (hn : n ≠ 0) (hd : 1 ≤ digits) :
    let more := digits + n.log2 - m.log2
    let A' := ((2 * ((m <<< more) / n) + ((m <<< more) % n != 0).toNat : Nat) : Rat) * p2 (i - j - more - 1)
    let A := ((m : Rat) * p2 i) / ((n : Rat) * p2 j)
    ∃ P : Rat, 0 ≤ P ∧ (m ≠ 0 → P * p2 digits ≤ A) ∧ (m = 0 → P = 0) ∧ A' - A ≤ P ∧ A - A' ≤ P := by
  intro more A' A
  have hn0 : (0 : Rat) < (n : Rat) := by exact_mod_cast Nat.pos_of_ne_zero hn
  by_cases hm : m = 0
  · refine ⟨0, by grind, fun h => absurd hm h, fun _ => rfl, ?_, ?_⟩ <;>
    · show _ ≤ (0 : Rat)
      simp only [A', A, hm, Nat.zero_shiftLeft, Nat.zero_div, Nat.zero_mod]
      simp
      try grind
  · have eD : (m <<< more) = m * 2 ^ more := Nat.shiftLeft_eq _ _
    have hD : 2 ^ digits * n ≤ 2 * (m * 2 ^ more) := by
      have h1 : 2 ^ m.log2 ≤ m := Nat.log2_self_le hm
      have h2 : n < 2 ^ (n.log2 + 1) := Nat.lt_log2_self
      have h3 : 2 ^ m.log2 * 2 ^ more ≤ m * 2 ^ more := Nat.mul_le_mul_right _ h1
      rw [← Nat.pow_add] at h3
      have h4 : 2 ^ (digits + n.log2) ≤ 2 ^ (m.log2 + more) := Nat.pow_le_pow_right (by omega) (by omega)
      have h5 : 2 ^ digits * n ≤ 2 ^ digits * 2 ^ (n.log2 + 1) := Nat.mul_le_mul_left _ (Nat.le_of_lt h2)
      rw [← Nat.pow_add] at h5
      have h6 : 2 ^ (digits + (n.log2 + 1)) = 2 * 2 ^ (digits + n.log2) := by rw [← Nat.add_assoc, Nat.pow_succ]; omega
      omega
    have hA : A * (n : Rat) = 2 * ((m * 2 ^ more : Nat) : Rat) * p2 (i - j - more - 1) := by
      have h1 : p2 i = ((2 ^ more : Nat) : Rat) * (2 * (p2 (i - j - more - 1) * p2 j)) := by
        have h2 : p2 1 = 2 := rfl
        rw [← p2_nat, ← h2, ← p2_add, ← p2_add, ← p2_add]
        congr 1
        omega
      have h3 : A * ((n : Rat) * p2 j) = (m : Rat) * p2 i := Rat.div_mul_cancel (by have := p2_pos j; have := Rat.mul_pos hn0 this; grind)
      rw [h1] at h3
      have h4 := p2_pos j
      have e : ((m * 2 ^ more : Nat) : Rat) = (m : Rat) * ((2 ^ more : Nat) : Rat) := by simp
      rw [e]
      have h5 : (A * (n : Rat) - 2 * ((m : Rat) * ((2 ^ more : Nat) : Rat)) * p2 (i - j - more - 1)) * p2 j = 0 := by grind
      rcases Rat.mul_eq_zero.1 h5 with h6 | h6
      · grind
      · grind
    have hdm := Nat.div_add_mod (m * 2 ^ more) n
    have hrl := Nat.mod_lt (m * 2 ^ more) (Nat.pos_of_ne_zero hn)
    have hP := p2_pos (i - j - more - 1)
    have hA' : A' = ((2 * ((m * 2 ^ more) / n) + ((m * 2 ^ more) % n != 0).toNat : Nat) : Rat) * p2 (i - j - more - 1) := by simp only [A', eD]
    refine ⟨p2 (i - j - more - 1), Rat.le_of_lt hP, fun _ => ?_, fun h => absurd h hm, ?_⟩
    · have h1 : ((2 ^ digits : Nat) : Rat) * (n : Rat) ≤ 2 * ((m * 2 ^ more : Nat) : Rat) := by exact_mod_cast hD
      have h2 := Rat.mul_le_mul_of_nonneg_right h1 (Rat.le_of_lt hP)
      rw [← hA] at h2
      rw [p2_nat]
      refine Rat.le_of_mul_le_mul_right (c := (n : Rat)) ?_ hn0
      grind
    · generalize hq : (m * 2 ^ more) / n = q at *
      generalize hr : (m * 2 ^ more) % n = r at *
      have hc : ((m * 2 ^ more : Nat) : Rat) = (n : Rat) * (q : Rat) + (r : Rat) := by rw [← hdm]; simp
      rw [hc] at hA
      rw [hA']
      generalize p2 (i - j - more - 1) = P at *
      have hr1 : (r : Rat) ≤ (n : Rat) := by exact_mod_cast Nat.le_of_lt hrl
      have hr0 : (0 : Rat) ≤ (r : Rat) := by exact_mod_cast Nat.zero_le r
      have b1 := Rat.mul_le_mul_of_nonneg_right hr1 (Rat.le_of_lt hP)
      have b2 := Rat.mul_nonneg hr0 (Rat.le_of_lt hP)
      by_cases h0 : r = 0
      · subst h0
        have e : ((2 * q + ((0 : Nat) != 0).toNat : Nat) : Rat) = 2 * (q : Rat) := by simp
        rw [e]
        have hAq : A * (n : Rat) = 2 * (q : Rat) * P * (n : Rat) := by grind
        have hAe : A = 2 * (q : Rat) * P := by
          have h5 : (A - 2 * (q : Rat) * P) * (n : Rat) = 0 := by grind
          rcases Rat.mul_eq_zero.1 h5 with h6 | h6 <;> grind
        constructor <;> grind
      · have hb : ((r : Nat) != 0) = true := by simp [h0]
        have e : ((2 * q + (r != 0).toNat : Nat) : Rat) = 2 * (q : Rat) + 1 := by rw [hb]; simp
        rw [e]
        constructor
        · refine Rat.le_of_mul_le_mul_right (c := (n : Rat)) ?_ hn0
          grind
        · refine Rat.le_of_mul_le_mul_right (c := (n : Rat)) ?_ hn0
          grind
end Go.Proofs.Ytgocgcnpgmamiaa
