/-
  The program's over, and the first plate in the way.
-/
import Derived.Test.YtoidhlackoigkaaOv58
namespace Go.Proofs.Ytoidhlackoigkaa
open Go.ChangeShapes Go.WideShapes Go.ChangeAt Go.RowKit
set_option linter.unusedVariables false
set_option linter.unusedSimpArgs false

/-- a laid plate: its number, whether it is turned, where it lies -/
structure Ld where
  n : Int
  t : Bool
  a : Rc
def ldC (l : Ld) : List Value := [.int .i64 l.n, .int .i64 l.a.x, .int .i64 l.a.y, .bool l.t, .int .i64 l.a.w, .int .i64 l.a.h]
theorem ldV_eq (l : Ld) : ldV l.n l.t l.a = .agg (ldC l).toArray := rfl
set_option maxHeartbeats 2000000 in
theorem over_any (l m : Ld) (w : World) (hl : Sm l.a) (hm : Sm m.a) :
    Calls Try.prog 58 #[ldV l.n l.t l.a, ldV m.n m.t m.a] w fun e w' => e = .returned (.bool (ovr l.a m.a)) ∧ Below w.heap.size w w' := by
  have R1 := hide (fun W => right_any m.n m.t m.a W hm)
  have R2 := hide (fun W => right_any l.n l.t l.a W hl)
  have R3 := hide (fun W => top_any m.n m.t m.a W hm)
  have R4 := hide (fun W => top_any l.n l.t l.a W hl)
  have HO : Hid (ovr l.a m.a = (decide (l.a.x < m.a.x + m.a.w) && (decide (m.a.x < l.a.x + l.a.w) && (decide (l.a.y < m.a.y + m.a.h) && decide (m.a.y < l.a.y + l.a.h))))) := hide rfl
  have HB := hide (ba (ba (Below.refl w.heap.size w) (.cells (ldC l).toArray 78)) (.cells (ldC m).toArray 78))
  have HG := hide (vb_new1 w 78 (ldC l) (.cells (ldC m).toArray 78))
  have HH := hide (vb_new2 w 78 (ldC m) (.cells (ldC l).toArray 78))
  generalize ovr l.a m.a = o at HO
  unfold ldV at R1 R2 R3 R4 ⊢
  unfold ldC at HB HG HH
  clear hl hm
  generalize hr1 : m.a.x + m.a.w = r1 at R1 HO
  generalize hr2 : l.a.x + l.a.w = r2 at R2 HO
  generalize hr3 : m.a.y + m.a.h = r3 at R3 HO
  generalize hr4 : l.a.y + l.a.h = r4 at R4 HO
  clear hr1 hr2 hr3 hr4
  go_enter Try.func58, Try.ntmps58
  go_wp2_with fail
  by_cases h1 : l.a.x < r1
  · by_cases h2 : m.a.x < r2
    · by_cases h3 : l.a.y < r3
      · have e4 : (decide (l.a.x < r1) && (decide (m.a.x < r2) && (decide (l.a.y < r3) && decide (m.a.y < r4)))) = decide (m.a.y < r4) := by simp [h1, h2, h3]
        refine Go.Code.wp_mono (Only.to (fun _ _ h => h)) (ov_d h1 h2 h3 (hide ((unhide HG).cell (m := 0) rfl)) (hide ((unhide HG).cell (m := 1) rfl)) (hide ((unhide HG).cell (m := 2) rfl)) (hide ((unhide HG).cell (m := 3) rfl)) (hide ((unhide HG).cell (m := 4) rfl)) (hide ((unhide HG).cell (m := 5) rfl)) (hide ((unhide HH).cell (m := 0) rfl)) (hide ((unhide HH).cell (m := 1) rfl)) (hide ((unhide HH).cell (m := 2) rfl)) (hide ((unhide HH).cell (m := 3) rfl)) (hide ((unhide HH).cell (m := 4) rfl)) (hide ((unhide HH).cell (m := 5) rfl)) (hide fun X _ => unhide R1 X) (hide fun X _ => unhide R2 X) (hide fun X _ => unhide R3 X) (hide fun X _ => unhide R4 X) ?_)
        intro W1 hW1
        have HB1 := hide (bc (unhide HB) hW1)
        clear hW1
        go_wp2_with fail
        go_ret
        exact ⟨ret_bool (by rw [unhide HO, e4]), unhide HB1⟩
      · have e4 : (decide (l.a.x < r1) && (decide (m.a.x < r2) && (decide (l.a.y < r3) && decide (m.a.y < r4)))) = false := by simp [h3]
        refine Go.Code.wp_mono (Only.to (fun _ _ h => h)) (ov_c (S := 0) h1 h2 h3 (hide ((unhide HG).cell (m := 0) rfl)) (hide ((unhide HG).cell (m := 1) rfl)) (hide ((unhide HG).cell (m := 2) rfl)) (hide ((unhide HG).cell (m := 3) rfl)) (hide ((unhide HG).cell (m := 4) rfl)) (hide ((unhide HG).cell (m := 5) rfl)) (hide ((unhide HH).cell (m := 0) rfl)) (hide ((unhide HH).cell (m := 1) rfl)) (hide ((unhide HH).cell (m := 2) rfl)) (hide ((unhide HH).cell (m := 3) rfl)) (hide ((unhide HH).cell (m := 4) rfl)) (hide ((unhide HH).cell (m := 5) rfl)) (hide fun X _ => unhide R1 X) (hide fun X _ => unhide R2 X) (hide fun X _ => unhide R3 X) ?_)
        intro W1 hW1
        have HB1 := hide (bc (unhide HB) hW1)
        clear hW1
        go_wp2_with fail
        go_ret
        exact ⟨ret_bool (by rw [unhide HO, e4]), unhide HB1⟩
    · have e4 : (decide (l.a.x < r1) && (decide (m.a.x < r2) && (decide (l.a.y < r3) && decide (m.a.y < r4)))) = false := by simp [h2]
      refine Go.Code.wp_mono (Only.to (fun _ _ h => h)) (ov_b (S := 0) (Q := 0) h1 h2 (hide ((unhide HG).cell (m := 0) rfl)) (hide ((unhide HG).cell (m := 1) rfl)) (hide ((unhide HG).cell (m := 2) rfl)) (hide ((unhide HG).cell (m := 3) rfl)) (hide ((unhide HG).cell (m := 4) rfl)) (hide ((unhide HG).cell (m := 5) rfl)) (hide ((unhide HH).cell (m := 0) rfl)) (hide ((unhide HH).cell (m := 1) rfl)) (hide ((unhide HH).cell (m := 2) rfl)) (hide ((unhide HH).cell (m := 3) rfl)) (hide ((unhide HH).cell (m := 4) rfl)) (hide ((unhide HH).cell (m := 5) rfl)) (hide fun X _ => unhide R1 X) (hide fun X _ => unhide R2 X) ?_)
      intro W1 hW1
      have HB1 := hide (bc (unhide HB) hW1)
      clear hW1
      go_wp2_with fail
      go_ret
      exact ⟨ret_bool (by rw [unhide HO, e4]), unhide HB1⟩
  · have e4 : (decide (l.a.x < r1) && (decide (m.a.x < r2) && (decide (l.a.y < r3) && decide (m.a.y < r4)))) = false := by simp [h1]
    refine Go.Code.wp_mono (Only.to (fun _ _ h => h)) (ov_a (S := 0) (Q := 0) (P := 0) h1 (hide ((unhide HG).cell (m := 0) rfl)) (hide ((unhide HG).cell (m := 1) rfl)) (hide ((unhide HG).cell (m := 2) rfl)) (hide ((unhide HG).cell (m := 3) rfl)) (hide ((unhide HG).cell (m := 4) rfl)) (hide ((unhide HG).cell (m := 5) rfl)) (hide ((unhide HH).cell (m := 0) rfl)) (hide ((unhide HH).cell (m := 1) rfl)) (hide ((unhide HH).cell (m := 2) rfl)) (hide ((unhide HH).cell (m := 3) rfl)) (hide ((unhide HH).cell (m := 4) rfl)) (hide ((unhide HH).cell (m := 5) rfl)) (hide fun X _ => unhide R1 X) ?_)
    intro W1 hW1
    have HB1 := hide (bc (unhide HB) hW1)
    clear hW1
    go_wp2_with fail
    go_ret
    exact ⟨ret_bool (by rw [unhide HO, e4]), unhide HB1⟩
end Go.Proofs.Ytoidhlackoigkaa
