/-
  What the model's FracOf answers, all cases together.
-/
import Derived.Test.YtimkinpbimangaaFrSp
namespace Go.Proofs.Ytimkinpbimangaa
open Go.ChangeShapes Go.WideShapes Go.ChangeAt Go.RowKit
set_option linter.unusedVariables false

theorem signs (n d : Int) : (decide (n < 0) = true ∧ decide (d < 0) = true ∧ ((n < 0) ↔ (d < 0))) ∨ (decide (n < 0) = false ∧ decide (d < 0) = false ∧ ((n < 0) ↔ (d < 0))) ∨
    (decide (n < 0) = true ∧ decide (d < 0) = false ∧ ¬ ((n < 0) ↔ (d < 0))) ∨ (decide (n < 0) = false ∧ decide (d < 0) = true ∧ ¬ ((n < 0) ↔ (d < 0))) := by
  by_cases a : n < 0 <;> by_cases b : d < 0 <;> simp [a, b]

theorem specOf_any (n d : Int) (w : World) (hn1 : -9223372036854775808 ≤ n) (hn2 : n ≤ 9223372036854775807) (hd1 : -9223372036854775808 ≤ d) (hd2 : d ≤ 9223372036854775807) :
    Calls Try.prog 47 #[.int .i64 n, .int .i64 d] w fun e w' => e = .returned (frAns n d) ∧ Below w.heap.size w w' := by
  by_cases hd : d = 0
  · subst hd
    rw [ans_zero]
    exact so_zero n w
  have hg := gcd_pos n d hd
  have hgA : Nat.gcd n.natAbs d.natAbs ≤ 9223372036854775808 := Nat.le_trans (Nat.gcd_le_right _ (by omega)) (by omega)
  by_cases h1 : Nat.gcd n.natAbs d.natAbs = 1
  · have eT : frTop n d = n.natAbs := by unfold frTop; rw [h1, Nat.div_one]
    have eB : frBot n d = d.natAbs := by unfold frBot; rw [h1, Nat.div_one]
    by_cases f1 : 1000000000 < n.natAbs
    · rw [ans_over n d hd (Or.inl (by rw [eT]; exact f1))]
      exact so_one_over1 n d w hn1 hn2 hd1 hd2 hd (hide h1) f1
    by_cases f2 : 1000000000 < d.natAbs
    · rw [ans_over n d hd (Or.inr (by rw [eB]; exact f2))]
      exact so_one_over2 n d w hn1 hn2 hd1 hd2 hd (hide h1) (Nat.le_of_not_lt f1) f2
    have g1 : frTop n d ≤ 1000000000 := by rw [eT]; exact Nat.le_of_not_lt f1
    have g2 : frBot n d ≤ 1000000000 := by rw [eB]; exact Nat.le_of_not_lt f2
    rcases signs n d with ⟨e1, e2, hs⟩ | ⟨e1, e2, hs⟩ | ⟨e1, e2, hs⟩ | ⟨e1, e2, hs⟩
    · rw [ans_fits n d hd g1 g2 (n.natAbs : Int) (by rw [if_pos hs, eT]), eB]
      exact so_one_tt n d w hn1 hn2 hd1 hd2 hd (hide h1) (Nat.le_of_not_lt f1) (Nat.le_of_not_lt f2) e1 e2
    · rw [ans_fits n d hd g1 g2 (n.natAbs : Int) (by rw [if_pos hs, eT]), eB]
      exact so_one_ff n d w hn1 hn2 hd1 hd2 hd (hide h1) (Nat.le_of_not_lt f1) (Nat.le_of_not_lt f2) e1 e2
    · rw [ans_fits n d hd g1 g2 (-(n.natAbs : Int)) (by rw [if_neg hs, eT]), eB]
      exact so_one_tf n d w hn1 hn2 hd1 hd2 hd (hide h1) (Nat.le_of_not_lt f1) (Nat.le_of_not_lt f2) e1 e2
    · rw [ans_fits n d hd g1 g2 (-(n.natAbs : Int)) (by rw [if_neg hs, eT]), eB]
      exact so_one_ft n d w hn1 hn2 hd1 hd2 hd (hide h1) (Nat.le_of_not_lt f1) (Nat.le_of_not_lt f2) e1 e2
  have h2 : 2 ≤ Nat.gcd n.natAbs d.natAbs := by omega
  have hT0 : n.natAbs / Nat.gcd n.natAbs d.natAbs ≤ n.natAbs / 2 := Nat.div_le_div_left h2 (by decide)
  have hT : frTop n d ≤ 4611686018427387904 := Nat.le_trans hT0 (by omega)
  have hB0 : d.natAbs / Nat.gcd n.natAbs d.natAbs ≤ d.natAbs / 2 := Nat.div_le_div_left h2 (by decide)
  have hB : frBot n d ≤ 4611686018427387904 := Nat.le_trans hB0 (by omega)
  have qT : (-(n.natAbs : Int)).tdiv (-(Nat.gcd n.natAbs d.natAbs : Int)) = (frTop n d : Int) := tdiv_negs _ _
  have qB : (-(d.natAbs : Int)).tdiv (-(Nat.gcd n.natAbs d.natAbs : Int)) = (frBot n d : Int) := tdiv_negs _ _
  by_cases f1 : 1000000000 < frTop n d
  · rw [ans_over n d hd (Or.inl f1)]
    exact so_many_over1 n d w hn1 hn2 hd1 hd2 hd _ _ _ (hide rfl) h2 hgA qT qB hT hB f1
  by_cases f2 : 1000000000 < frBot n d
  · rw [ans_over n d hd (Or.inr f2)]
    exact so_many_over2 n d w hn1 hn2 hd1 hd2 hd _ _ _ (hide rfl) h2 hgA qT qB hT hB (Nat.le_of_not_lt f1) f2
  have g1 := Nat.le_of_not_lt f1
  have g2 := Nat.le_of_not_lt f2
  rcases signs n d with ⟨e1, e2, hs⟩ | ⟨e1, e2, hs⟩ | ⟨e1, e2, hs⟩ | ⟨e1, e2, hs⟩
  · rw [ans_fits n d hd g1 g2 (frTop n d : Int) (by rw [if_pos hs])]
    exact so_many_tt n d w hn1 hn2 hd1 hd2 hd _ _ _ (hide rfl) h2 hgA qT qB hT hB g1 g2 e1 e2
  · rw [ans_fits n d hd g1 g2 (frTop n d : Int) (by rw [if_pos hs])]
    exact so_many_ff n d w hn1 hn2 hd1 hd2 hd _ _ _ (hide rfl) h2 hgA qT qB hT hB g1 g2 e1 e2
  · rw [ans_fits n d hd g1 g2 (-(frTop n d : Int)) (by rw [if_neg hs])]
    exact so_many_tf n d w hn1 hn2 hd1 hd2 hd _ _ _ (hide rfl) h2 hgA qT qB hT hB g1 g2 e1 e2
  · rw [ans_fits n d hd g1 g2 (-(frTop n d : Int)) (by rw [if_neg hs])]
    exact so_many_ft n d w hn1 hn2 hd1 hd2 hd _ _ _ (hide rfl) h2 hgA qT qB hT hB g1 g2 e1 e2
end Go.Proofs.Ytimkinpbimangaa
