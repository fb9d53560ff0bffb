/-
  The model's SketchSolve where there is no sketch, and where all rules are kept.
-/
import Derived.Test.YtchdmigeopmacaaKeeps
import Derived.Test.YtchdmigeopmacaaCoreMath
namespace Go.Proofs.Ytchdmigeopmacaa
open Go.ChangeShapes Go.WideShapes Go.ChangeAt Go.RowKit
set_option linter.unusedVariables false
set_option linter.unusedSimpArgs false

theorem solveM_bad (n : Int) (u : Option Addr) (l c : Nat) (w : World)
    (HOKM : Hid (∀ W, Below w.heap.size w W → Calls Try.prog 20 #[skv n u l c] W fun e w' => e = .returned (.bool false) ∧ Below W.heap.size W w')) :
    Calls Try.prog 8 #[skv n u l c] w fun e w' => ∃ g g2, e = .returned (.tuple #[.slice (some ⟨g, 0, none⟩) 0 0, .int .i64 1, .slice (some ⟨g2, 0, none⟩) 0 0]) ∧ Below w.heap.size w w' := by
  go_enter Try.func8, Try.ntmps8
  go_wp2_with fail
  refine (unhide HOKM _ (ba (Below.refl _ _) _)).mono ?_
  rintro e W1 ⟨rfl, hb1⟩
  have HB1 := hide (bc (ba (Below.refl _ _) _) hb1)
  clear hb1
  go_wp2_with fail
  exact bodyPost_ret (v := .tuple #[.slice (some ⟨W1.heap.size, 0, none⟩) 0 0, .int .i64 1, .slice (some ⟨W1.heap.size + 1, 0, none⟩) 0 0]) (by simp [results, Try.results8, go_sem]) rfl ⟨_, _, rfl, ba (ba (unhide HB1) _) _⟩

theorem solveM_kept (N : Nat) (u : Option Addr) (l c : Nat) (P : List Int) (w : World) (hl : l ≤ 60)
    (HOKM : Hid (∀ W, Below w.heap.size w W → Calls Try.prog 20 #[skv (N : Int) u l c] W fun e w' => e = .returned (.bool true) ∧ Below W.heap.size W w'))
    (HKEEP : Hid (∀ W, Below w.heap.size w W → ∀ (uk : Option Addr) (q ck : Nat), (l ≠ 0 → uk = some ⟨q, 0, none⟩ ∧ q < W.heap.size ∧ IntsAt W q 0 (nats (List.range l))) →
      Calls Try.prog 27 #[skv (N : Int) u l c, .slice uk l ck] W fun e w' => ∃ v, e = .returned (.tuple #[v, .bool true]) ∧ Row w' (W.heap.size + 1) 42 2 v N P ∧ Below W.heap.size W w')) :
    Calls Try.prog 8 #[skv (N : Int) u l c] w fun e w' => ∃ v g2, e = .returned (.tuple #[v, .int .i64 0, .slice (some ⟨g2, 0, none⟩) 0 0]) ∧ Row w' w.heap.size 42 2 v N P ∧ Below w.heap.size w w' := by
  have HALL := hide (fun W => all_any (N : Int) u l c W hl)
  go_enter Try.func8, Try.ntmps8
  go_wp2_with fail
  refine (unhide HOKM _ (ba (Below.refl _ _) _)).mono ?_
  rintro e W1 ⟨rfl, hb1⟩
  have a0 : W1.cell? ⟨w.heap.size, 0, none⟩ = some (.int .i64 (N : Int)) := keep1 hb1 (by simp [go_sem])
  have a1 : W1.cell? ⟨w.heap.size, 1, none⟩ = some (.slice u l c) := keep1 hb1 (by simp [go_sem])
  have HB1 := hide (bc (ba (Below.refl _ _) _) hb1)
  clear hb1
  go_wp2_with fail
  refine (unhide HALL _).mono ?_
  rintro e W2 ⟨v, rfl, hrow, hb2⟩
  have b0 := keep1 hb2 a0
  have b1 := keep1 hb2 a1
  have lt1' := cell_lt a0
  have HB2 := hide (bc (unhide HB1) hb2)
  obtain ⟨uk, ck, rfl, hform⟩ := hrow.form
  obtain ⟨q, hq⟩ : ∃ q, l ≠ 0 → uk = some ⟨q, 0, none⟩ ∧ q < W2.heap.size ∧ IntsAt W2 q 0 (nats (List.range l)) := by
    by_cases h0 : l = 0
    · exact ⟨0, fun h => absurd h0 h⟩
    · obtain ⟨g, h1, _, h3, h4⟩ := hform h0
      exact ⟨g, fun _ => ⟨h1, h3, h4⟩⟩
  have HQ := hide hq
  clear hrow hb2 a0 a1 hform hq
  go_wp2_with fail
  refine (unhide HKEEP _ (unhide HB2) uk q ck (unhide HQ)).mono ?_
  rintro e W3 ⟨vp, rfl, hr3, hb3⟩
  have HB3 := hide (bc (unhide HB2) hb3)
  have HR3 := hide (hr3.mono (show w.heap.size ≤ W2.heap.size + 1 by have := (unhide HB2).size; omega))
  clear hb3 hr3 b0 b1
  go_wp2_with fail
  exact bodyPost_ret (v := .tuple #[vp, .int .i64 0, .slice (some ⟨W3.heap.size, 0, none⟩) 0 0]) (by simp [results, Try.results8, go_sem]) rfl ⟨_, _, rfl, (unhide HR3).below (ba (Below.refl _ _) _), ba (unhide HB3) _⟩
end Go.Proofs.Ytchdmigeopmacaa
