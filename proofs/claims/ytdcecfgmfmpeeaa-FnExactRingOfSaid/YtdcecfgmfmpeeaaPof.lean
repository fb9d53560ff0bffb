/-
  The drawn points: four at least, all right, whatever the code.
-/
import Derived.Test.YtdcecfgmfmpeeaaPta
namespace Go.Proofs.Ytdcecfgmfmpeeaa
open Go.ChangeShapes Go.WideShapes Go.ChangeAt Go.RowKit
set_option linter.unusedVariables false
set_option linter.unusedSimpArgs false

theorem info26 : (Try.prog.info? 30).map (fun i => (i.zero, i.size, i.bytes)) = some (some (.agg #[.int .i64 0, .int .i64 0]), 2, 16) := by kernel_rfl
/-- points one behind another -/
def flat2 (L : List Pt) : List Int := L.flatMap fun p => [p.1, p.2]
theorem flat2_len (L : List Pt) : (flat2 L).length = L.length * 2 := by
  induction L with
  | nil => rfl
  | cons e L ih => show (flat2 L).length + 2 = (L.length + 1) * 2; omega
theorem flat2_app (a b : List Pt) : flat2 (a ++ b) = flat2 a ++ flat2 b := by simp [flat2]
theorem flat2_at {L : List Pt} {i : Nat} {p : Pt} (h : L[i]? = some p) : (flat2 L)[i * 2]? = some p.1 ∧ (flat2 L)[i * 2 + 1]? = some p.2 := by
  induction L generalizing i with
  | nil => cases h
  | cons x L ih =>
    cases i with
    | zero =>
      simp only [List.getElem?_cons_zero, Option.some.injEq] at h
      subst h
      exact ⟨rfl, rfl⟩
    | succ i =>
      rw [List.getElem?_cons_succ] at h
      have := ih h
      rw [show (i + 1) * 2 = i * 2 + 1 + 1 by omega]
      exact this
theorem Mv.bel' {g : Nat} {w W w' : World} (h : Below w.heap.size w W) (m : Mv g W w') (hg : w.heap.size ≤ g) : Below w.heap.size w w' :=
  ⟨m.os.trans h.os, m.tape.trans h.tape, m.output.trans h.output, Nat.le_trans h.size m.size, fun k hk => (m.block k (Nat.lt_of_lt_of_le hk h.size) (by omega)).trans (h.block k hk)⟩

end Go.Proofs.Ytdcecfgmfmpeeaa
