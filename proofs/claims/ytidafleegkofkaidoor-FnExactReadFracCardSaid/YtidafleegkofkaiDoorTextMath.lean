/-
  Plain numbers and texts: a numeral is read back, a text is parted at its slash, and fractions of one value are one.
-/
import Derived.Test.YtidafleegkofkaiDoorTexts
import Derived.Lib.ItoaNum
import Derived.Lib.Atoi
import Derived.Lib.Index
import Derived.Lib.IndexMore
namespace Go.Proofs.YtidafleegkofkaiDoor

theorem byte_val (k : Nat) (h : k < 10) : (UInt8.ofNat (48 + k)).toNat = 48 + k := by
  rw [UInt8.toNat_ofNat']; omega
theorem digit_of (k : Nat) (h : k < 10) : Lib.digitVal (UInt8.ofNat (48 + k)) = some k := by
  unfold Lib.digitVal
  rw [byte_val k h, if_pos (by omega)]
  simp
theorem decFrom_snoc (l : List UInt8) (b : UInt8) (d : Nat) (hd : Lib.digitVal b = some d) : ∀ (acc n : Nat), Lib.decFrom acc l = some n → Lib.decFrom acc (l ++ [b]) = some (n * 10 + d) := by
  induction l with
  | nil => intro acc n h; simp [Lib.decFrom] at h; subst h; simp [Lib.decFrom, hd]
  | cons c r ih =>
    intro acc n h
    simp only [List.cons_append, Lib.decFrom] at h ⊢
    cases hc : Lib.digitVal c with
    | none => rw [hc] at h; cases h
    | some e => rw [hc] at h; exact ih _ _ h
theorem dec_ne (m : Nat) : Lib.decDigits m ≠ [] := by
  by_cases h : m < 10
  · rw [dec_small m h]; simp
  · rw [dec_big m h]; simp
theorem dec_one (m : Nat) (h : m < 10) : Lib.decFrom 0 [UInt8.ofNat (48 + m)] = some m := by
  simp only [Lib.decFrom, digit_of m h]
  simp
theorem dec_read (f : Nat) : ∀ m : Nat, m ≤ f → Lib.decFrom 0 (Lib.decDigits m) = some m := by
  induction f with
  | zero => intro m h; rw [dec_small m (by omega)]; exact dec_one m (by omega)
  | succ f ih =>
    intro m h
    by_cases h0 : m < 10
    · rw [dec_small m h0]; exact dec_one m h0
    · rw [dec_big m h0, decFrom_snoc _ _ (m % 10) (digit_of _ (by omega)) 0 (m / 10) (ih _ (by omega))]
      congr 1
      omega
theorem decNat_read (m : Nat) : Lib.decNat (Lib.decDigits m) = some m := by
  unfold Lib.decNat
  rw [if_neg (by simpa using dec_ne m)]
  exact dec_read m m (Nat.le_refl _)
/-- the bytes of a numeral are digits -/
theorem dec_bytes (f : Nat) : ∀ m : Nat, m ≤ f → ∀ b ∈ Lib.decDigits m, 48 ≤ b.toNat ∧ b.toNat ≤ 57 := by
  induction f with
  | zero => intro m h b hb; rw [dec_small m (by omega)] at hb; simp at hb; subst hb; have := byte_val m (by omega); rw [UInt8.toNat_ofNat'] at this; simp at this ⊢; omega
  | succ f ih =>
    intro m h b hb
    by_cases h0 : m < 10
    · rw [dec_small m h0] at hb
      rw [List.mem_singleton] at hb
      subst hb
      rw [byte_val m h0]; omega
    · rw [dec_big m h0, List.mem_append, List.mem_singleton] at hb
      rcases hb with hb | hb
      · exact ih (m / 10) (by omega) b hb
      · subst hb; rw [byte_val _ (by omega)]; omega
theorem atoi_itoa (n : Int) : Lib.atoi (Lib.itoa n) = some n := by
  unfold Lib.itoa
  by_cases hn : n < 0
  · rw [if_pos hn]
    simp only [Lib.atoi]
    rw [if_pos (by decide), decNat_read]
    simp; omega
  · rw [if_neg hn]
    have hr := decNat_read n.toNat
    have hb := dec_bytes n.toNat n.toNat (Nat.le_refl _)
    cases hd : Lib.decDigits n.toNat with
    | nil => exact absurd hd (dec_ne _)
    | cons b r =>
      rw [hd] at hr hb
      have h1 := hb b (by simp)
      simp only [Lib.atoi]
      have e1 : (b == 45) = false := by rw [beq_eq_false_iff_ne]; intro e; subst e; revert h1; decide
      have e2 : (b == 43) = false := by rw [beq_eq_false_iff_ne]; intro e; subst e; revert h1; decide
      rw [e1, e2, hr]
      simp; omega
theorem itoa_noslash (n : Int) : ∀ b ∈ Lib.itoa n, b ≠ 47 := by
  intro b hb e
  subst e
  unfold Lib.itoa at hb
  split at hb
  · rw [List.mem_cons] at hb
    rcases hb with hb | hb
    · revert hb; decide
    · have := dec_bytes n.natAbs n.natAbs (Nat.le_refl _) 47 hb; revert this; decide
  · have := dec_bytes n.toNat n.toNat (Nat.le_refl _) 47 hb; revert this; decide
theorem index_no (l : List UInt8) (h : ∀ b ∈ l, b ≠ 47) : Lib.index l [47] = -1 := by
  induction l with
  | nil => rfl
  | cons b r ih =>
    have hb := h b (by simp)
    have hi := ih (fun c hc => h c (by simp [hc]))
    simp [Lib.index, List.isPrefixOf, hi, Ne.symm hb]
theorem index_at (l r : List UInt8) (h : ∀ b ∈ l, b ≠ 47) : Lib.index (l ++ 47 :: r) [47] = (l.length : Int) := by
  induction l with
  | nil => simp [Lib.index, List.isPrefixOf]
  | cons b t ih =>
    have hb := h b (by simp)
    have hi := ih (fun c hc => h c (by simp [hc]))
    simp only [List.cons_append, Lib.index, hi]
    simp [List.isPrefixOf, Ne.symm hb]
theorem cut_no (l : List UInt8) (h : ∀ b ∈ l, b ≠ 47) : Lib.cut l [47] = (l, [], false) := by
  unfold Lib.cut
  rw [index_no l h, if_neg (by omega)]
theorem cut_at (l r : List UInt8) (h : ∀ b ∈ l, b ≠ 47) : Lib.cut (l ++ 47 :: r) [47] = (l, r, true) := by
  unfold Lib.cut
  rw [index_at l r h, if_pos (by omega)]
  simp

/-- two right fractions of one value are one -/
theorem right_eq (n d m e : Int) (h1 : frOk n d = true) (h2 : frOk m e = true) (hv : n * e = m * d) : n = m ∧ d = e := by
  unfold frOk at h1 h2
  rw [decide_eq_true_iff] at h1 h2
  have hg1 := h1.2.2.2.2
  have hg2 := h2.2.2.2.2
  have habs : n.natAbs * e.natAbs = m.natAbs * d.natAbs := by rw [← Int.natAbs_mul, ← Int.natAbs_mul, hv]
  have d1 : d.natAbs ∣ e.natAbs := by
    have : d.natAbs ∣ n.natAbs * e.natAbs := ⟨m.natAbs, by rw [habs, Nat.mul_comm]⟩
    exact (Nat.Coprime.symm hg1).dvd_of_dvd_mul_left this
  have d2 : e.natAbs ∣ d.natAbs := by
    have : e.natAbs ∣ m.natAbs * d.natAbs := ⟨n.natAbs, by rw [← habs, Nat.mul_comm]⟩
    exact (Nat.Coprime.symm hg2).dvd_of_dvd_mul_left this
  have hde : d.natAbs = e.natAbs := Nat.dvd_antisymm d1 d2
  have he : d = e := by omega
  subst he
  refine ⟨?_, rfl⟩
  exact Int.eq_of_mul_eq_mul_right (by omega) hv
/-- what is reduced has the same value -/
theorem value_eq (x y : Int) (hy : 0 < y) (h : frCode x y = 0) : frN x y * y = x * frD x y := by
  unfold frCode at h
  rw [if_neg (by omega)] at h
  by_cases hf : frFits x y = true
  · have eD : frD x y = (frBot x y : Int) := by unfold frD; rw [if_neg (by omega), if_pos hf]
    have eN : frN x y = if (x < 0) ↔ (y < 0) then (frTop x y : Int) else -(frTop x y : Int) := by unfold frN; rw [if_neg (by omega), if_pos hf]
    rw [eN, eD]
    have hg := gcd_pos x y (by omega)
    have ht : Nat.gcd x.natAbs y.natAbs * frTop x y = x.natAbs := Nat.mul_div_cancel' (Nat.gcd_dvd_left _ _)
    have hb : Nat.gcd x.natAbs y.natAbs * frBot x y = y.natAbs := Nat.mul_div_cancel' (Nat.gcd_dvd_right _ _)
    generalize Nat.gcd x.natAbs y.natAbs = g at *
    generalize frTop x y = T at *
    generalize frBot x y = B at *
    have ey : y = (g : Int) * (B : Int) := by rw [← Int.natCast_mul]; omega
    have key : (T : Int) * ((g : Int) * (B : Int)) = (g : Int) * (T : Int) * (B : Int) := by rw [← Int.mul_assoc, Int.mul_comm (T : Int) (g : Int)]
    by_cases hx : x < 0
    · rw [if_neg (by omega)]
      have ex : x = -((g : Int) * (T : Int)) := by rw [← Int.natCast_mul]; omega
      rw [ex, ey, Int.neg_mul, Int.neg_mul, key]
    · rw [if_pos (by omega)]
      have ex : x = (g : Int) * (T : Int) := by rw [← Int.natCast_mul]; omega
      rw [ex, ey, key]
  · rw [if_neg hf] at h; omega
end Go.Proofs.YtidafleegkofkaiDoor
