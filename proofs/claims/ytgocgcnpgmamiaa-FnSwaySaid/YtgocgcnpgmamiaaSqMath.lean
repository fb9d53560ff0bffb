/-
  How near the tones are to what they stand for.
-/
import Derived.Test.YtgocgcnpgmamiaaCaP
import Derived.Test.YtgocgcnpgmamiaaSpM
import Derived.Test.YtgocgcnpgmamiaaFlMono
namespace Go.Proofs.Ytgocgcnpgmamiaa
open Go.ChangeShapes Go.WideShapes Go.ChangeAt Go.RowKit
set_option linter.unusedVariables false
set_option linter.unusedSimpArgs false

theorem top64 : (100000000000000000000 : Rat) ≤ p2 (top .f64) := by
  have h2 : p2 67 = 147573952589676412928 := by rw [show (67 : Int) = ((67 : Nat) : Int) from rfl, p2_nat]; rfl
  have h3 := p2_le (show (67 : Int) ≤ top .f64 by decide)
  grind
theorem top32 : (1000000000 : Rat) ≤ p2 (top .f32) := by
  have h2 : p2 30 = 1073741824 := by rw [show (30 : Int) = ((30 : Nat) : Int) from rfl, p2_nat]; rfl
  have h3 := p2_le (show (30 : Int) ≤ top .f32 by decide)
  grind
def hh : Rat := 6369051672525773 / 9007199254740992
theorem val_h : val .f64 4604544271217802189 = hh := by
  have := cval (k := .f64) (x := 4604544271217802189) (s := false) (m := 6369051672525773) (n := 53) rfl
  have e : ((2 ^ 53 : Nat) : Rat) = 9007199254740992 := rfl
  rw [e] at this
  simp only [sg] at this
  unfold hh
  grind
theorem val_nh : val .f64 13827916308072577997 = -hh := by
  have := cval (k := .f64) (x := 13827916308072577997) (s := true) (m := 6369051672525773) (n := 53) rfl
  have e : ((2 ^ 53 : Nat) : Rat) = 9007199254740992 := rfl
  rw [e] at this
  simp only [sg] at this
  unfold hh
  grind
theorem val_1 : val .f64 4607182418800017408 = 1 := by
  have := cval (k := .f64) (x := 4607182418800017408) (s := false) (m := 4503599627370496) (n := 52) rfl
  have e : ((2 ^ 52 : Nat) : Rat) = 4503599627370496 := rfl
  rw [e] at this
  simp only [sg] at this
  grind
theorem val_n1 : val .f64 13830554455654793216 = -1 := by
  have := cval (k := .f64) (x := 13830554455654793216) (s := true) (m := 4503599627370496) (n := 52) rfl
  have e : ((2 ^ 52 : Nat) : Rat) = 4503599627370496 := rfl
  rw [e] at this
  simp only [sg] at this
  grind
theorem val_0 : val .f64 0 = 0 := by
  have := cval (k := .f64) (x := 0) (s := false) (m := 0) (n := 1074) rfl
  have h2 : (0 : Rat) < ((2 ^ 1074 : Nat) : Rat) := by exact_mod_cast Nat.two_pow_pos 1074
  generalize ((2 ^ 1074 : Nat) : Rat) = t at *
  have h3 : val .f64 0 * t = 0 := by rw [this]; simp only [sg]; grind
  rcases Rat.mul_eq_zero.1 h3 with h | h <;> grind
def tr (q : Nat) : Rat := val .f64 (tre q)
def ti (q : Nat) : Rat := val .f64 (tim q)
theorem tr_vals : tr 0 = 1 ∧ tr 1 = hh ∧ tr 2 = 0 ∧ tr 3 = -hh ∧ tr 4 = -1 ∧ tr 5 = -hh ∧ tr 6 = 0 ∧ tr 7 = hh := ⟨val_1, val_h, val_0, val_nh, val_n1, val_nh, val_0, val_h⟩
theorem ti_vals : ti 0 = 0 ∧ ti 1 = -hh ∧ ti 2 = -1 ∧ ti 3 = -hh ∧ ti 4 = 0 ∧ ti 5 = hh ∧ ti 6 = 1 ∧ ti 7 = hh := ⟨val_0, val_nh, val_n1, val_nh, val_0, val_h, val_1, val_h⟩
theorem hh_01 : 0 ≤ hh ∧ hh ≤ 1 := by unfold hh; constructor <;> grind
theorem tr_le {q : Nat} (h : q < 8) : -1 ≤ tr q ∧ tr q ≤ 1 ∧ -1 ≤ ti q ∧ ti q ≤ 1 := by
  obtain ⟨a0, a1, a2, a3, a4, a5, a6, a7⟩ := tr_vals
  obtain ⟨b0, b1, b2, b3, b4, b5, b6, b7⟩ := ti_vals
  obtain ⟨h0, h1⟩ := hh_01
  match q, h with
  | 0, _ => grind
  | 1, _ => grind
  | 2, _ => grind
  | 3, _ => grind
  | 4, _ => grind
  | 5, _ => grind
  | 6, _ => grind
  | 7, _ => grind
/-- the numbers' worth, and the tones as they would be without rounding -/
def Xv (L : List Nat) (j : Nat) : Rat := val .f64 (L.getD j 0)
def TR (X : Nat → Rat) (k : Nat) : Nat → Rat
  | 0 => 0
  | j + 1 => TR X k j + X j * tr (j * k % 8)
def TI (X : Nat → Rat) (k : Nat) : Nat → Rat
  | 0 => 0
  | j + 1 => TI X k j + X j * ti (j * k % 8)
theorem mul_small {x t S : Rat} (hx1 : -S ≤ x) (hx2 : x ≤ S) (h1 : -1 ≤ t) (h2 : t ≤ 1) (hS : 0 ≤ S) : -S ≤ x * t ∧ x * t ≤ S := by
  have a := Rat.mul_nonneg (show 0 ≤ S - x by grind) (show 0 ≤ 1 - t by grind)
  have b := Rat.mul_nonneg (show 0 ≤ S - x by grind) (show 0 ≤ 1 + t by grind)
  have c := Rat.mul_nonneg (show 0 ≤ S + x by grind) (show 0 ≤ 1 - t by grind)
  have d := Rat.mul_nonneg (show 0 ≤ S + x by grind) (show 0 ≤ 1 + t by grind)
  constructor <;> grind
/-- one product more -/
theorem prod_step {x t a : Nat} {T d S : Rat} (hS1 : 1 ≤ S) (hS2 : S ≤ 10000000000000) (hx : isNum .f64 x) (hx1 : -S ≤ val .f64 x) (hx2 : val .f64 x ≤ S) (ht : isNum .f64 t) (h1 : -1 ≤ val .f64 t) (h2 : val .f64 t ≤ 1)
    (ha : Nr .f64 a T d) (hT1 : -(8 * S) ≤ T) (hT2 : T ≤ 8 * S) (hd : d ≤ S) : ∃ r, fa (some a) (fm (Fv .f64 x) (Fv .f64 t)) = some r ∧ Nr .f64 r (T + val .f64 x * val .f64 t) (d + 2 / 100000000000000 * S) := by
  obtain ⟨m1, m2⟩ := mul_small hx1 hx2 h1 h2 (by grind)
  have hM : S ≤ p2 (top .f64) := Rat.le_trans (by grind) top64
  obtain ⟨p, hp, np, p1, p2'⟩ := mul_val hx ht S m2 (by grind) hM
  obtain ⟨na, a1, a2⟩ := ha
  have e1v : e1 .f64 = 1 / 1000000000000000 := rfl
  have e2v : e2 = 1 / 1000000000000000000000000000000 := rfl
  rw [e1v, e2v] at p1 p2'
  have hM2 : 12 * S ≤ p2 (top .f64) := Rat.le_trans (by grind) top64
  obtain ⟨r, hr, nr, r1, r2⟩ := add_val na np (12 * S) (by grind) (by grind) hM2
  rw [e1v, e2v] at r1 r2
  refine ⟨r, ?_, nr, ?_, ?_⟩
  · unfold fa fm
    rw [hx.fv, ht.fv]
    simp only [fop, hp, hr]
  · grind
  · grind
theorem tone_near {L : List Nat} (ha : ∀ j, j < 8 → isNum .f64 (L.getD j 0)) {S : Rat} (hS1 : 1 ≤ S) (hS2 : S ≤ 10000000000000) (hX : ∀ j, j < 8 → -S ≤ Xv L j ∧ Xv L j ≤ S) (k : Nat) : ∀ j, j ≤ 8 → ∃ a b, spS L k j = (some a, some b) ∧ Nr .f64 a (TR (Xv L) k j) ((j : Rat) * (2 / 100000000000000 * S)) ∧ Nr .f64 b (TI (Xv L) k j) ((j : Rat) * (2 / 100000000000000 * S)) ∧ -((j : Rat) * S) ≤ TR (Xv L) k j ∧ TR (Xv L) k j ≤ (j : Rat) * S ∧ -((j : Rat) * S) ≤ TI (Xv L) k j ∧ TI (Xv L) k j ≤ (j : Rat) * S := by
  intro j
  induction j with
  | zero =>
    intro _
    refine ⟨0, 0, rfl, ⟨num_0, ?_, ?_⟩, ⟨num_0, ?_, ?_⟩, ?_⟩ <;> simp only [TR, TI, val_0] <;> grind
  | succ j ih =>
    intro hj
    obtain ⟨a, b, hs, hna, hnb, t1, t2, u1, u2⟩ := ih (by omega)
    have hq : j * k % 8 < 8 := Nat.mod_lt _ (by omega)
    obtain ⟨c1, c2, c3, c4⟩ := tr_le hq
    obtain ⟨n1, n2⟩ := tbl_num hq
    obtain ⟨x1, x2⟩ := hX j (by omega)
    have hj8 : (j : Rat) ≤ 7 := by have : j ≤ 7 := by omega
                                   exact_mod_cast this
    have hj0 : (0 : Rat) ≤ (j : Rat) := by exact_mod_cast Nat.zero_le j
    have hjS := Rat.mul_le_mul_of_nonneg_right hj8 (show 0 ≤ S by grind)
    have hjS0 := Rat.mul_nonneg hj0 (show 0 ≤ S by grind)
    have hcast : ((j + 1 : Nat) : Rat) = (j : Rat) + 1 := by simp
    obtain ⟨r, hr, nr, r1, r2⟩ := prod_step hS1 hS2 (ha j (by omega)) x1 x2 n1 c1 c2 hna (by grind) (by grind) (by grind)
    obtain ⟨q, hqq, nq, q1, q2⟩ := prod_step hS1 hS2 (ha j (by omega)) x1 x2 n2 c3 c4 hnb (by grind) (by grind) (by grind)
    obtain ⟨m1, m2⟩ := mul_small x1 x2 c1 c2 (by grind)
    obtain ⟨m3, m4⟩ := mul_small x1 x2 c3 c4 (by grind)
    refine ⟨r, q, ?_, ⟨nr, ?_, ?_⟩, ⟨nq, ?_, ?_⟩, ?_, ?_, ?_, ?_⟩
    · rw [show spS L k (j + 1) = tadd (spS L k j) (fm (Fv .f64 (L.getD j 0)) (Fv .f64 (tre (j * k % 8))), fm (Fv .f64 (L.getD j 0)) (Fv .f64 (tim (j * k % 8)))) from rfl, hs]
      unfold tadd
      simp only [hr, hqq]
    · rw [hcast]; show val .f64 r - (TR (Xv L) k j + Xv L j * tr (j * k % 8)) ≤ _; unfold Xv tr at *; grind
    · rw [hcast]; show (TR (Xv L) k j + Xv L j * tr (j * k % 8)) - val .f64 r ≤ _; unfold Xv tr at *; grind
    · rw [hcast]; show val .f64 q - (TI (Xv L) k j + Xv L j * ti (j * k % 8)) ≤ _; unfold Xv ti at *; grind
    · rw [hcast]; show (TI (Xv L) k j + Xv L j * ti (j * k % 8)) - val .f64 q ≤ _; unfold Xv ti at *; grind
    · rw [hcast]; show _ ≤ TR (Xv L) k j + Xv L j * tr (j * k % 8); grind
    · rw [hcast]; show TR (Xv L) k j + Xv L j * tr (j * k % 8) ≤ _; grind
    · rw [hcast]; show _ ≤ TI (Xv L) k j + Xv L j * ti (j * k % 8); grind
    · rw [hcast]; show TI (Xv L) k j + Xv L j * ti (j * k % 8) ≤ _; grind
end Go.Proofs.Ytgocgcnpgmamiaa
