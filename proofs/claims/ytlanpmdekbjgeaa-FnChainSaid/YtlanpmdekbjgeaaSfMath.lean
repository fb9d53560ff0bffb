/-
  Whether a chain is safe, and on which side each link is where it is not.
-/
import Derived.Test.YtlanpmdekbjgeaaChMath
namespace Go.Proofs.Ytlanpmdekbjgeaa
set_option linter.unusedVariables false
set_option linter.unusedSimpArgs false

def sd (tw : Int) (l : Lk) : Int := if l.pl = 0 ∧ l.mi = 0 then 0 else tw * l.sg
noncomputable def safB (ls : List Lk) (low high : Int) : Bool := rightB ls && decide (low ≤ chL ls ∧ chM ls ≤ high)
noncomputable def outS (ls : List Lk) (low high : Int) : List Int :=
  if rightB ls = true then (if low ≤ chL ls ∧ chM ls ≤ high then [] else ls.map (sd (if chL ls < low then -1 else 1))) else []
theorem outS_len (ls : List Lk) (low high : Int) : (outS ls low high).length ≤ 40 := by
  unfold outS
  split
  · rename_i h
    have := (of_rightB h).2.1
    split
    · simp
    · simpa using this
  · simp
end Go.Proofs.Ytlanpmdekbjgeaa
