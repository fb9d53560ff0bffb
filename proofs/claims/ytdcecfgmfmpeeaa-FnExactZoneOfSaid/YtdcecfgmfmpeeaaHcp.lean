/-
  slices.Compact of points: a row without its runs.
-/
import Derived.Test.YtdcecfgmfmpeeaaHta
namespace Go.Proofs.Ytdcecfgmfmpeeaa
open Go.ChangeShapes Go.WideShapes Go.ChangeAt Go.RowKit
set_option linter.unusedVariables false
set_option linter.unusedSimpArgs false

/-- the first k of a row, each run once: how it grows -/
theorem compU_snoc (L : List Pt) (a b : Pt) : compU (L ++ [a, b]) = if a = b then compU (L ++ [a]) else compU (L ++ [a]) ++ [b] := by
  induction L with
  | nil =>
    by_cases h : a = b
    · subst h
      simp [compU]
    · simp [compU, h]
  | cons x L ih =>
    cases L with
    | nil =>
      show compU (x :: a :: [b]) = _
      rw [compU]
      show _ = if a = b then compU (x :: [a]) else compU (x :: [a]) ++ [b]
      by_cases h : a = b
      · subst h
        by_cases h2 : x = a
        · subst h2
          simp [compU]
        · simp [compU, h2]
      · by_cases h2 : x = a
        · subst h2
          simp [compU, h]
        · simp [compU, h, h2]
    | cons y L =>
      show compU (x :: y :: (L ++ [a, b])) = _
      rw [compU]
      have ih' : compU (y :: (L ++ [a, b])) = if a = b then compU (y :: (L ++ [a])) else compU (y :: (L ++ [a])) ++ [b] := ih
      show _ = if a = b then compU (x :: y :: (L ++ [a])) else compU (x :: y :: (L ++ [a])) ++ [b]
      rw [show compU (x :: y :: (L ++ [a])) = if x = y then compU (y :: (L ++ [a])) else x :: compU (y :: (L ++ [a])) from by rw [compU]]
      rw [ih']
      by_cases h : a = b
      · rw [if_pos h, if_pos h]
      · rw [if_neg h, if_neg h]
        by_cases h2 : x = y
        · rw [if_pos h2, if_pos h2]
        · rw [if_neg h2, if_neg h2]
          rfl
theorem compU_step {D : List Pt} {k : Nat} {a b : Pt} (ha : D[k]? = some a) (hb : D[k + 1]? = some b) : compU (D.take (k + 2)) = if a = b then compU (D.take (k + 1)) else compU (D.take (k + 1)) ++ [b] := by
  have e1 : D.take (k + 1) = D.take k ++ [a] := by rw [List.take_add_one, ha]; rfl
  have e2 : D.take (k + 2) = D.take k ++ [a, b] := by rw [show k + 2 = k + 1 + 1 by rfl, List.take_add_one, hb, e1]; simp
  rw [e1, e2]
  exact compU_snoc _ a b
theorem compU_none {D : List Pt} : ∀ k, k ≤ D.length → (∀ j a b, j + 1 < k → D[j]? = some a → D[j + 1]? = some b → a ≠ b) → compU (D.take k) = D.take k := by
  intro k
  induction k with
  | zero => intro _ _; rfl
  | succ k ih =>
    intro hk h
    cases k with
    | zero =>
      cases D with
      | nil => simp at hk
      | cons x D => rfl
    | succ k =>
      have ha := List.getElem?_eq_getElem (show k < D.length by omega)
      have hb := List.getElem?_eq_getElem (show k + 1 < D.length by omega)
      rw [compU_step ha hb, if_neg (h k _ _ (by omega) ha hb), ih (by omega) (fun j a b hj => h j a b (by omega))]
      rw [show k + 1 + 1 = (k + 1) + 1 by rfl, List.take_add_one (l := D) (i := k + 1), hb]
      rfl
theorem compU_len (L : List Pt) : (compU L).length ≤ L.length := by
  induction L with
  | nil => simp [compU]
  | cons a L ih =>
    cases L with
    | nil => simp [compU]
    | cons b L =>
      unfold compU
      split
      · simp at ih ⊢; omega
      · simp at ih ⊢; omega
end Go.Proofs.Ytdcecfgmfmpeeaa
