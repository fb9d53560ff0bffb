/-
  The small functions of a nest: where a plate ends, whether two lie over one another (the program's and the model's).
-/
import Derived.Test.YtoidhlackoigkaaInv2
import Derived.Test.YtoidhlackoigkaaNsMath
import Derived.Deep.RegionHeld3
import Derived.Deep.DeepCutAuto
namespace Go.Proofs.Ytoidhlackoigkaa
open Go.ChangeShapes Go.WideShapes Go.ChangeAt Go.RowKit
set_option linter.unusedVariables false
set_option linter.unusedSimpArgs false

/-- a laid plate of the program: its number, whether it is turned, and where it lies -/
def ldV (n : Int) (t : Bool) (a : Rc) : Value := .agg #[.int .i64 n, .int .i64 a.x, .int .i64 a.y, .bool t, .int .i64 a.w, .int .i64 a.h]
/-- a rectangle of the model -/
def rcV (a : Rc) : Value := .agg #[.int .i64 a.x, .int .i64 a.y, .int .i64 a.w, .int .i64 a.h]
/-- far from where numbers wrap -/
def Sm (a : Rc) : Prop := (-1000000000 ≤ a.x ∧ a.x ≤ 1000000000) ∧ (-1000000000 ≤ a.y ∧ a.y ≤ 1000000000) ∧ (-1000000000 ≤ a.w ∧ a.w ≤ 1000000000) ∧ (-1000000000 ≤ a.h ∧ a.h ≤ 1000000000)
theorem right_any (n : Int) (t : Bool) (a : Rc) (w : World) (ha : Sm a) :
    Calls Try.prog 43 #[ldV n t a] w fun e w' => e = .returned (.int .i64 (a.x + a.w)) ∧ Below w.heap.size w w' := by
  obtain ⟨⟨p1, p2⟩, ⟨p3, p4⟩, ⟨p5, p6⟩, p7, p8⟩ := ha
  unfold ldV
  go_enter Try.func43, Try.ntmps43
  go_wp2
  go_ret
  exact ⟨rfl, ba (Below.refl _ _) _⟩
theorem top_any (n : Int) (t : Bool) (a : Rc) (w : World) (ha : Sm a) :
    Calls Try.prog 45 #[ldV n t a] w fun e w' => e = .returned (.int .i64 (a.y + a.h)) ∧ Below w.heap.size w w' := by
  obtain ⟨⟨p1, p2⟩, ⟨p3, p4⟩, ⟨p5, p6⟩, p7, p8⟩ := ha
  unfold ldV
  go_enter Try.func45, Try.ntmps45
  go_wp2
  go_ret
  exact ⟨rfl, ba (Below.refl _ _) _⟩
theorem overM_any (a b : Rc) (w : World) (ha : Sm a) (hb : Sm b) :
    Calls Try.prog 59 #[rcV a, rcV b] w fun e w' => e = .returned (.bool (ovr a b)) ∧ Below w.heap.size w w' := by
  obtain ⟨⟨p1, p2⟩, ⟨p3, p4⟩, ⟨p5, p6⟩, p7, p8⟩ := ha
  obtain ⟨⟨q1, q2⟩, ⟨q3, q4⟩, ⟨q5, q6⟩, q7, q8⟩ := hb
  unfold rcV
  cases c1 : decide (a.x < b.x + b.w) with
  | false =>
    go_enter Try.func59, Try.ntmps59
    go_wp2
    go_ret
    exact ⟨ret_bool (by simp only [ovr, c1, Bool.false_and]), ba (ba (Below.refl _ _) _) _⟩
  | true =>
    cases c2 : decide (b.x < a.x + a.w) with
    | false =>
      go_enter Try.func59, Try.ntmps59
      go_wp2
      go_ret
      exact ⟨ret_bool (by simp only [ovr, c1, c2, Bool.false_and, Bool.and_false]), ba (ba (Below.refl _ _) _) _⟩
    | true =>
      cases c3 : decide (a.y < b.y + b.h) with
      | false =>
        go_enter Try.func59, Try.ntmps59
        go_wp2
        go_ret
        exact ⟨ret_bool (by simp only [ovr, c1, c2, c3, Bool.false_and, Bool.and_false]), ba (ba (Below.refl _ _) _) _⟩
      | true =>
        go_enter Try.func59, Try.ntmps59
        go_wp2
        go_ret
        exact ⟨ret_bool (by simp only [ovr, c1, c2, c3, Bool.true_and]), ba (ba (Below.refl _ _) _) _⟩
end Go.Proofs.Ytoidhlackoigkaa
