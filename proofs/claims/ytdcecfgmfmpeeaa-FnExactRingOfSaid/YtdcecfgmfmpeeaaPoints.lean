/-
  Right points, one and many, of both sides.
-/
import Derived.Test.YtdcecfgmfmpeeaaLeaves2
namespace Go.Proofs.Ytdcecfgmfmpeeaa
open Go.ChangeShapes Go.WideShapes Go.ChangeAt Go.RowKit
set_option linter.unusedVariables false
set_option linter.unusedSimpArgs false

/-- the points lie in the cells from off on -/
def PtsAt (w : World) (b off : Nat) (L : List Pt) : Prop :=
  ∀ j (p : Pt), L[j]? = some p → w.cell? ⟨b, off + j * 2, none⟩ = some (.int .i64 p.1) ∧ w.cell? ⟨b, off + j * 2 + 1, none⟩ = some (.int .i64 p.2)
theorem PtsAt.below {w w' : World} {b off : Nat} {L : List Pt} (h : PtsAt w b off L) (hb : Below w.heap.size w w') : PtsAt w' b off L :=
  fun j p hj => ⟨keep1 hb (h j p hj).1, keep1 hb (h j p hj).2⟩
theorem PtsAt.bel {B : Nat} {w w' : World} {b off : Nat} {L : List Pt} (h : PtsAt w b off L) (hb : Below B w w') (hB : b < B) : PtsAt w' b off L :=
  fun j p hj => ⟨(hb.cell (p := ⟨b, _, none⟩) hB).trans (h j p hj).1, (hb.cell (p := ⟨b, _, none⟩) hB).trans (h j p hj).2⟩

theorem btw_any (x l h : Int) (w : World) : Calls Try.prog 32 #[.int .i64 x, .int .i64 l, .int .i64 h] w fun e w' => e = .returned (.bool (decide (l ≤ x) && decide (x ≤ h))) ∧ w' = w := by
  by_cases h1 : l ≤ x
  · have b1 : decide (l ≤ x) = true := decide_eq_true h1
    go_enter Try.func32, Try.ntmps32
    go_wp2
    go_ret
    exact ⟨ret_bool (by simp [h1]), rfl⟩
  · have b1 : decide (l ≤ x) = false := decide_eq_false h1
    go_enter Try.func32, Try.ntmps32
    go_wp2
    go_ret
    exact ⟨ret_bool (by simp [h1]), rfl⟩
theorem okP_ints (a1 a2 : Int) (w : World) :
    Calls Try.prog 76 #[.agg #[.int .i64 a1, .int .i64 a2]] w fun e w' => e = .returned (.bool (ptOk (a1, a2))) ∧ w' = w.alloc (.cells #[.int .i64 a1, .int .i64 a2] 30) := by
  have e : ptOk (a1, a2) = ((decide (-100000 ≤ a1) && decide (a1 ≤ 100000)) && (decide (-100000 ≤ a2) && decide (a2 ≤ 100000))) := by
    simp only [ptOk, ← Bool.decide_and]; congr 1; simp only [eq_iff_iff]; omega
  rw [e]
  by_cases hx : (decide (-100000 ≤ a1) && decide (a1 ≤ 100000)) = true
  · go_enter Try.func76, Try.ntmps76
    go_wp2_with fail
    refine (btw_any _ _ _ _).mono ?_
    rintro e w' ⟨rfl, rfl⟩
    rw [hx]
    go_wp2_with fail
    refine (btw_any _ _ _ _).mono ?_
    rintro e w' ⟨rfl, rfl⟩
    go_wp2_with fail
    go_ret
    exact ⟨ret_bool (by rw [hx]; simp), rfl⟩
  · have hx' : (decide (-100000 ≤ a1) && decide (a1 ≤ 100000)) = false := by simpa using hx
    go_enter Try.func76, Try.ntmps76
    go_wp2_with fail
    refine (btw_any _ _ _ _).mono ?_
    rintro e w' ⟨rfl, rfl⟩
    rw [hx']
    go_wp2_with fail
    go_ret
    exact ⟨ret_bool (by first | rfl | (rw [hx']; rfl)), rfl⟩
theorem wrong_ints (a1 a2 : Int) (w : World) :
    Calls Try.prog 60 #[.agg #[.int .i64 a1, .int .i64 a2]] w fun e w' => e = .returned (.bool (!ptOk (a1, a2))) ∧ Below w.heap.size w w' := by
  have hc := fun W => okP_ints a1 a2 W
  generalize ptOk (a1, a2) = t at hc ⊢
  go_enter Try.func60, Try.ntmps60
  go_wp2_with fail
  refine (hc _).mono ?_
  rintro e w' ⟨rfl, rfl⟩
  go_wp2_with fail
  go_ret
  exact ⟨rfl, ba (ba (Below.refl _ _) _) _⟩

end Go.Proofs.Ytdcecfgmfmpeeaa
