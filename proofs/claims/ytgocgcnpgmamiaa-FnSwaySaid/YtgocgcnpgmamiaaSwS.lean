/-
  Sways at the pulse 0, mass by mass.
-/
import Derived.Test.YtgocgcnpgmamiaaSwT
namespace Go.Proofs.Ytgocgcnpgmamiaa
open Go.ChangeShapes Go.WideShapes Go.ChangeAt Go.RowKit
set_option linter.unusedVariables false
set_option linter.unusedSimpArgs false

def Kv (L : List Nat) (i : Nat) : Rat := val .f64 (L.getD (i * 3 + 2) 0)
/-- what the first springs give -/
def SK (L : List Nat) : Nat → Rat
  | 0 => 0
  | i + 1 => SK L i + 1 / Kv L i
theorem val_k : val .f64 4562254508917369340 = 4611686018427388 / 4611686018427387904 := by
  have := cval (k := .f64) (x := 4562254508917369340) (s := false) (m := 4611686018427388) (n := 62) rfl
  have e : ((2 ^ 62 : Nat) : Rat) = 4611686018427387904 := rfl
  rw [e] at this
  simp only [sg] at this
  grind
theorem mko_val {x : Nat} (h : mko x = true) : isNum .f64 x ∧ 1 / 1001 ≤ val .f64 x ∧ val .f64 x ≤ 1000000 := by
  have := btw_val num_k num_m h
  rw [val_m, val_k] at this
  exact ⟨mko_num h, by grind, this.2⟩
theorem pls_val {x : Nat} (h : pls x = true) : isNum .f64 x ∧ 0 ≤ val .f64 x ∧ val .f64 x ≤ 1000000 := by
  have := btw_val num_0 num_m h
  rw [val_m, val_0] at this
  exact ⟨pls_num h, this.1, this.2⟩
theorem ms_parts {L : List Nat} {i : Nat} (h : msOk L i = true) : mko (L.getD (i * 3) 0) = true ∧ pls (L.getD (i * 3 + 1) 0) = true ∧ mko (L.getD (i * 3 + 2) 0) = true := by
  simp only [msOk, ms3, Bool.and_eq_true] at h
  exact ⟨h.1.1, h.1.2, h.2⟩
theorem kv_bd {L : List Nat} {i : Nat} (h : msOk L i = true) : 1 / 1001 ≤ Kv L i ∧ Kv L i ≤ 1000000 := (mko_val (ms_parts h).2.2).2
theorem inv_bd {x : Rat} (a b : Rat) (ha : 0 < a) (h1 : a ≤ x) (h2 : x ≤ b) : x * (1 / x) = 1 ∧ 0 < 1 / x ∧ (1 / x) * a ≤ 1 ∧ 1 ≤ (1 / x) * b := by
  have e : x * x⁻¹ = 1 := Rat.mul_inv_cancel _ (by grind)
  have hp : 0 < x⁻¹ := Rat.inv_pos.2 (by grind)
  have e1 : 1 / x = x⁻¹ := by rw [Rat.div_def]; grind
  rw [e1]
  have m1 := Rat.mul_le_mul_of_nonneg_left h1 (Rat.le_of_lt hp)
  have m2 := Rat.mul_le_mul_of_nonneg_left h2 (Rat.le_of_lt hp)
  generalize x⁻¹ = u at *
  exact ⟨e, hp, by grind, by grind⟩
theorem sk_bd {L : List Nat} (i : Nat) (h : ∀ j, j < i → msOk L j = true) (hi : i ≤ 20) : 0 ≤ SK L i ∧ SK L i ≤ (i : Rat) * 1001 ∧ (1 ≤ i → 1 / 1000000 ≤ SK L i) := by
  induction i with
  | zero => simp only [SK]; exact ⟨by grind, by grind, fun h => by omega⟩
  | succ i ih =>
    obtain ⟨h1, h2, _⟩ := ih (fun j hj => h j (by omega)) (by omega)
    obtain ⟨k1, k2⟩ := kv_bd (h i (by omega))
    obtain ⟨_, e1, e2, e3⟩ := inv_bd _ _ (by grind) k1 k2
    have hc : ((i + 1 : Nat) : Rat) = (i : Rat) + 1 := by simp
    rw [hc]
    simp only [SK]
    exact ⟨by grind, by grind, fun _ => by grind⟩
theorem sk_bd2 {L : List Nat} {i : Nat} (h : ∀ j, j < i + 1 → msOk L j = true) (hi : i < 20) : 1 / 1000000 ≤ SK L (i + 1) ∧ SK L (i + 1) ≤ 20020 := by
  obtain ⟨h1, h2, h3⟩ := sk_bd (i + 1) h (by omega)
  have hc : ((i + 1 : Nat) : Rat) ≤ 20 := by exact_mod_cast (show i + 1 ≤ 20 by omega)
  exact ⟨h3 (by omega), by grind⟩
theorem ow_nil {L : List Nat} {i : Nat} (h : msOk L i = true) : ∃ a, ow L 0 i = (some a, some 0) ∧ isNum .f64 a ∧ val .f64 a = 0 := by
  obtain ⟨h1, _, _⟩ := ms_parts h
  obtain ⟨n1, _, _⟩ := mko_val h1
  obtain ⟨a, fa', na, va⟩ := mul_nil num_0 num_0 (nil_l val_0)
  obtain ⟨b, fb, nb, vb'⟩ := mul_nil na n1 (nil_l va)
  obtain ⟨nn, vn⟩ := neg_num nb
  refine ⟨_, ?_, nn, by rw [vn, vb']; grind⟩
  unfold ow own_ fm fneg
  rw [n1.fv, fv0]
  simp only [fop, fa', fb, Option.map_some]
theorem lk_tr {L : List Nat} {i : Nat} (h : msOk L i = true) : Tr (lk L 0 i) 0 (Kv L i) := by
  obtain ⟨_, h2, h3⟩ := ms_parts h
  obtain ⟨n3, k1, k2⟩ := mko_val h3
  obtain ⟨n2, _, _⟩ := pls_val h2
  obtain ⟨a, fa', na, va⟩ := mul_nil num_0 n2 (nil_l val_0)
  refine ⟨_, a, ?_, n3, na, va, Rel.self (by grind)⟩
  unfold lk lnk fm
  rw [n3.fv, n2.fv, fv0]
  simp only [fop, fa']
def kd : Nat → Nat
  | 0 => 0
  | i + 1 => 2 * kd i + 5
theorem kd_eq (i : Nat) : kd i + 5 = 5 * 2 ^ i := by
  induction i with
  | zero => rfl
  | succ i ih => simp only [kd, Nat.pow_succ]; omega
theorem kd_le {i : Nat} (h : i ≤ 19) : kd i ≤ 2621435 := by
  have h1 := kd_eq i
  have h2 : 2 ^ i ≤ 2 ^ 19 := Nat.pow_le_pow_right (by omega) h
  omega
theorem one_one {x : Rat} (h : 0 < x) : 1 / (1 / x) = x := by
  rw [Rat.div_def, Rat.div_def]
  have e : x * x⁻¹ = 1 := Rat.mul_inv_cancel _ (by grind)
  have hp : 0 < x⁻¹ := Rat.inv_pos.2 h
  have e2 : (1 * x⁻¹) * (1 * x⁻¹)⁻¹ = 1 := Rat.mul_inv_cancel _ (by grind)
  generalize (1 * x⁻¹)⁻¹ = v at *
  generalize x⁻¹ = u at *
  have : 1 * v * (x * u) = x * (1 * u * v) := by grind
  rw [e, e2] at this
  grind
theorem div_of {x y z : Rat} (hy : 0 < y) (h : x = z * y) : x / y = z := by
  rw [Rat.div_def]
  have e : y * y⁻¹ = 1 := Rat.mul_inv_cancel _ (by grind)
  generalize y⁻¹ = u at *
  subst h
  have : z * y * u = z * (y * u) := by grind
  rw [this, e]
  grind
theorem drg_tr {L : List Nat} (i : Nat) (h : ∀ j, j < i + 1 → msOk L j = true) (hi : i < 20) : Tr (drg L 0 i) (kd i) (1 / SK L (i + 1)) := by
  induction i with
  | zero =>
    obtain ⟨a, ea, na, va⟩ := ow_nil (h 0 (by omega))
    obtain ⟨k1, k2⟩ := kv_bd (h 0 (by omega))
    have e : 1 / SK L 1 = Kv L 0 := by
      simp only [SK]
      rw [show (0 : Rat) + 1 / Kv L 0 = 1 / Kv L 0 by grind]
      exact one_one (by grind)
    rw [e]
    simp only [drg, ea]
    exact tadd_nil na num_0 va val_0 (lk_tr (h 0 (by omega))) (by decide) (by grind)
  | succ i ih =>
    have ih := ih (fun j hj => h j (by omega)) (by omega)
    obtain ⟨a, ea, na, va⟩ := ow_nil (h (i + 1) (by omega))
    have hk := h (i + 1) (by omega)
    obtain ⟨k1, k2⟩ := kv_bd hk
    have hl := lk_tr hk
    obtain ⟨s1, s2⟩ := sk_bd2 (i := i) (fun j hj => h j (by omega)) (by omega)
    obtain ⟨t1, t2⟩ := sk_bd2 (i := i + 1) h (by omega)
    have hkd := kd_le (i := i) (by omega)
    simp only [drg, ea]
    have eS : SK L (i + 1 + 1) = SK L (i + 1) + 1 / Kv L (i + 1) := rfl
    obtain ⟨a1, a2, a3, a4⟩ := inv_bd _ _ (by grind) s1 s2
    obtain ⟨b1, b2, b3, b4⟩ := inv_bd _ _ (by grind) k1 k2
    obtain ⟨c1, c2, c3, c4⟩ := inv_bd _ _ (by grind) t1 t2
    rw [eS] at c1 c2 c3 c4 t1 t2 ⊢
    generalize SK L (i + 1) = S at *
    generalize Kv L (i + 1) = K at *
    generalize 1 / S = s at *
    generalize 1 / K = κ at *
    generalize 1 / (S + κ) = z at *
    have hX : 0 < K * s := Rat.mul_pos (by grind) a2
    have x1 := mul_le4 (show (0 : Rat) ≤ 1 / 1001 by grind) k1 (show (0 : Rat) ≤ 1 / 20020 by grind) (show 1 / 20020 ≤ s by grind)
    have x2 := mul_le4 (show (0 : Rat) ≤ K by grind) k2 (Rat.le_of_lt a2) (show s ≤ 1000000 by grind)
    have y1 : 1 / 1001 ≤ s + K := by grind
    have y2 : s + K ≤ 2000000 := by grind
    have p1 := mul_le4 (show (0 : Rat) ≤ 1 / 1001 * (1 / 20020) by grind) x1 (show (0 : Rat) ≤ 1 / 1001 by grind) y1
    have p2 := mul_le4 (Rat.le_of_lt hX) x2 (show 0 ≤ s + K by grind) y2
    have p3 := mul_le4 (show (0 : Rat) ≤ 1 / 1001 by grind) y1 (show (0 : Rat) ≤ 1 / 1001 by grind) y1
    have p4 := mul_le4 (show 0 ≤ s + K by grind) y2 (show 0 ≤ s + K by grind) y2
    have hz : K * s / (s + K) = z := div_of (by grind) (by grind)
    have hm := tmul_tr hl ih (by omega) (by omega) (by grind) (by grind)
    have ha := tadd_tr ih (hl.up (Nat.zero_le _)) (by omega) (by grind) (by grind)
    have hs := tshare_tr hm ha (by omega) (by grind) (by grind) (by grind) (by grind) (by rw [hz]; grind) (by rw [hz]; grind)
    rw [hz] at hs
    exact tadd_nil na num_0 va val_0 (hs.up (show 0 + kd i + 1 + (kd i + 1) + 3 ≤ kd (i + 1) by simp only [kd]; omega)) (by simp only [kd]; omega) (by grind)
theorem swf_tr {L : List Nat} (last d : Nat) (h : ∀ j, j < last + 1 → msOk L j = true) (hi : last < 20) (hd : d ≤ last) : Tr (swf L 0 last d) (2 * kd last + 10 - kd (last - d)) (SK L (last - d + 1)) := by
  have hkl := kd_le (i := last) (by omega)
  induction d with
  | zero =>
    have hg := drg_tr last h hi
    obtain ⟨s1, s2⟩ := sk_bd2 (i := last) h hi
    obtain ⟨a1, a2, a3, a4⟩ := inv_bd _ _ (by grind) s1 s2
    have h1 : Tr (some 4607182418800017408, some 0) 0 1 := ⟨_, _, rfl, num_1, num_0, val_0, by rw [val_1]; exact Rel.self (by grind)⟩
    have e := one_one (x := SK L (last + 1)) (by grind)
    simp only [swf, Nat.sub_zero]
    have y1 : 1 / 20020 ≤ 1 / SK L (last + 1) := by grind
    have y2 : 1 / SK L (last + 1) ≤ 1000000 := by grind
    have p3 := mul_le4 (show (0 : Rat) ≤ 1 / 20020 by grind) y1 (show (0 : Rat) ≤ 1 / 20020 by grind) y1
    have p4 := mul_le4 (Rat.le_of_lt a2) y2 (Rat.le_of_lt a2) y2
    have hs := tdiv_tr h1 hg (by omega) (by grind) (by grind) (by grind) (by grind) (by rw [e]; grind) (by rw [e]; grind)
    rw [e] at hs
    exact hs.up (by omega)
  | succ d ih =>
    have ih := ih (by omega)
    obtain ⟨j, hj⟩ : ∃ j, last - d = j + 1 := ⟨last - d - 1, by omega⟩
    have ej : last - (d + 1) = j := by omega
    have ej2 : last - d - 1 = j := by omega
    rw [hj] at ih
    have hk := h (j + 1) (by omega)
    obtain ⟨k1, k2⟩ := kv_bd hk
    have hl := lk_tr hk
    have hg := drg_tr j (fun q hq => h q (by omega)) (by omega)
    obtain ⟨s1, s2⟩ := sk_bd2 (i := j) (fun q hq => h q (by omega)) (by omega)
    obtain ⟨t1, t2⟩ := sk_bd2 (i := j + 1) (fun q hq => h q (by omega)) (by omega)
    have hkd := kd_le (i := j) (by omega)
    have hkd2 := kd_le (i := j + 1) (by omega)
    have hkk : kd (j + 1) = 2 * kd j + 5 := rfl
    simp only [swf, hj, ej, Nat.add_sub_cancel]
    have eS : SK L (j + 1 + 1) = SK L (j + 1) + 1 / Kv L (j + 1) := rfl
    obtain ⟨a1, a2, a3, a4⟩ := inv_bd _ _ (by grind) s1 s2
    obtain ⟨b1, b2, b3, b4⟩ := inv_bd _ _ (by grind) k1 k2
    rw [eS] at t1 t2 ih
    generalize SK L (j + 1) = S at *
    generalize Kv L (j + 1) = K at *
    generalize 1 / S = s at *
    generalize 1 / K = κ at *
    have hX : 0 < K * (S + κ) := Rat.mul_pos (by grind) (by grind)
    have x1 := mul_le4 (show (0 : Rat) ≤ 1 / 1001 by grind) k1 (show (0 : Rat) ≤ 1 / 1000000 by grind) t1
    have x2 := mul_le4 (show (0 : Rat) ≤ K by grind) k2 (show 0 ≤ S + κ by grind) t2
    have y1 : 1 / 1001 ≤ s + K := by grind
    have y2 : s + K ≤ 2000000 := by grind
    have p1 := mul_le4 (show (0 : Rat) ≤ 1 / 1001 * (1 / 1000000) by grind) x1 (show (0 : Rat) ≤ 1 / 1001 by grind) y1
    have p2 := mul_le4 (Rat.le_of_lt hX) x2 (show 0 ≤ s + K by grind) y2
    have p3 := mul_le4 (show (0 : Rat) ≤ 1 / 1001 by grind) y1 (show (0 : Rat) ≤ 1 / 1001 by grind) y1
    have p4 := mul_le4 (show 0 ≤ s + K by grind) y2 (show 0 ≤ s + K by grind) y2
    have hz : K * (S + κ) / (s + K) = S := div_of (by grind) (by grind)
    have hm := tmul_tr hl ih (by omega) (by omega) (by grind) (by grind)
    have ha := tadd_tr hg (hl.up (Nat.zero_le _)) (by omega) (by grind) (by grind)
    have hs := tshare_tr hm ha (by omega) (by grind) (by grind) (by grind) (by grind) (by rw [hz]; grind) (by rw [hz]; grind)
    rw [hz] at hs
    have hle : kd (j + 1) ≤ kd last := by
      have h1 := kd_eq (j + 1)
      have h2 := kd_eq last
      have h3 : 2 ^ (j + 1) ≤ 2 ^ last := Nat.pow_le_pow_right (by omega) (by omega)
      omega
    exact hs.up (by omega)
end Go.Proofs.Ytgocgcnpgmamiaa
