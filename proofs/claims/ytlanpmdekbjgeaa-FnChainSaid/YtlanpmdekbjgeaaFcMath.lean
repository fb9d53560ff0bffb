/-
  Corners, and what is safe is likely.
-/
import Derived.Test.YtlanpmdekbjgeaaLyMath
import Derived.Test.YtlanpmdekbjgeaaSfMath
namespace Go.Proofs.Ytlanpmdekbjgeaa
set_option linter.unusedVariables false
set_option linter.unusedSimpArgs false

theorem lo_hi (l : Lk) : hi l - lo l = tol l := by
  unfold hi lo tol
  split <;> omega
theorem tol_nonneg {l : Lk} (h : LOk l) : 0 ≤ tol l := by
  obtain ⟨_, h1, h2, h3, h4, h5, h6, h7⟩ := h
  unfold tol
  omega
theorem sumBy_sub (ls : List Lk) : ∀ i, i ≤ ls.length → sumBy hi (ls.take i) - sumBy lo (ls.take i) = sumBy tol (ls.take i) := by
  intro i
  induction i with
  | zero => intro _; simp [sumBy, sumL]
  | succ i ih =>
    intro h
    have hx : ls[i]? = some ls[i] := List.getElem?_eq_getElem (by omega)
    rw [sumBy_succ hx, sumBy_succ hx, sumBy_succ hx, ← lo_hi, ← ih (by omega)]
    omega
theorem sumBy_sq (ls : List Lk) (hok : ∀ l ∈ ls, LOk l) : ∀ i, i ≤ ls.length → 0 ≤ sumBy tol (ls.take i) ∧ sumBy sq (ls.take i) ≤ sumBy tol (ls.take i) * sumBy tol (ls.take i) := by
  intro i
  induction i with
  | zero => intro _; simp [sumBy, sumL]
  | succ i ih =>
    intro h
    have hx : ls[i]? = some ls[i] := List.getElem?_eq_getElem (by omega)
    rw [sumBy_succ hx, sumBy_succ hx]
    obtain ⟨h1, h2⟩ := ih (by omega)
    have h3 := tol_nonneg (hok _ (List.mem_of_getElem? hx))
    have h4 := Int.mul_nonneg h1 h3
    have e : sq ls[i] = tol ls[i] * tol ls[i] := rfl
    rw [e]
    generalize sumBy tol (ls.take i) = S at *
    generalize tol ls[i] = t at *
    refine ⟨by omega, ?_⟩
    rw [Int.add_mul, Int.mul_add, Int.mul_add, Int.mul_comm t S]
    omega
/-- what is safe is likely -/
theorem safe_likely {ls : List Lk} {low high : Int} (hr : Right ls) (h1 : low ≤ sumBy lo ls) (h2 : sumBy hi ls ≤ high) : lkl (sumBy lo ls + sumBy hi ls) (sumBy sq ls) low high = true := by
  have ha := sumBy_sub ls ls.length (Nat.le_refl _)
  have hb := sumBy_sq ls hr.2.2.1 ls.length (Nat.le_refl _)
  rw [List.take_length] at ha hb
  obtain ⟨hb1, hb2⟩ := hb
  generalize sumBy lo ls = L at *
  generalize sumBy hi ls = M at *
  generalize sumBy tol ls = S at *
  generalize sumBy sq ls = Q at *
  unfold lkl
  refine decide_eq_true ⟨⟨by omega, ?_⟩, by omega, ?_⟩
  · have := Int.mul_le_mul (show S ≤ L + M - 2 * low by omega) (show S ≤ L + M - 2 * low by omega) hb1 (by omega)
    omega
  · have := Int.mul_le_mul (show S ≤ 2 * high - (L + M) by omega) (show S ≤ 2 * high - (L + M) by omega) hb1 (by omega)
    omega
/-- the size at a corner -/
def szAt (c : Int) (l : Lk) : Int := if c = 1 then l.sz + l.pl else if c = -1 then l.sz - l.mi else l.sz
theorem corner_lo {l : Lk} (h : LOk l) : l.sg * szAt (sd (-1) l) l = lo l := by
  obtain ⟨_, h1, h2, h3, h4, h5, h6, h7⟩ := h
  unfold szAt sd lo
  by_cases hz : l.pl = 0 ∧ l.mi = 0
  · rw [if_pos hz]
    rcases h1 with e | e <;> rw [e] <;> simp <;> omega
  · rw [if_neg hz]
    rcases h1 with e | e <;> rw [e] <;> simp <;> omega
theorem corner_hi {l : Lk} (h : LOk l) : l.sg * szAt (sd 1 l) l = hi l := by
  obtain ⟨_, h1, h2, h3, h4, h5, h6, h7⟩ := h
  unfold szAt sd hi
  by_cases hz : l.pl = 0 ∧ l.mi = 0
  · rw [if_pos hz]
    rcases h1 with e | e <;> rw [e] <;> simp <;> omega
  · rw [if_neg hz]
    rcases h1 with e | e <;> rw [e] <;> simp <;> omega
end Go.Proofs.Ytlanpmdekbjgeaa
