/-
  The model's floor of what is none.
-/
import Derived.Test.YtbjljofgpbecbaaFlm
namespace Go.Proofs.Ytbjljofgpbecbaa
open Go.ChangeShapes Go.WideShapes Go.ChangeAt Go.RowKit
set_option linter.unusedVariables false
set_option linter.unusedSimpArgs false

set_option maxHeartbeats 2000000 in
theorem flM_bad (W H r : Int) (u : Option Addr) (p po n c : Nat) (T : List Int) (w : World) (hO : ¬ (FOk W H T ∧ 0 ≤ r ∧ r ≤ 3)) (hl : T.length = n) (hn : n ≤ 9223372036854775807) (hu : Its w u p po T) :
    Calls Try.prog 16 #[fldV W H u n c, .int .i64 r] w fun e w' => e = .returned (.tuple #[fldV 0 0 none 0 0, .int .i64 1]) ∧ Below w.heap.size w w' := by
  have HK := hide (fun X (hX : Below w.heap.size w X) => fokM_any W H u p po n c T X hl hn (hu.bel hX))
  have HR := hide (fun X => tlM_any r X)
  have HO : Hid (fokB W H T = true → (decide (0 ≤ r) && decide (r ≤ 3)) = false) := hide (fun h => by
    have h1 : FOk W H T := of_decide_eq_true h
    rw [Bool.eq_false_iff]
    intro h2
    simp only [Bool.and_eq_true, decide_eq_true_eq] at h2
    exact hO ⟨h1, h2.1, h2.2⟩)
  have HB := hide (ba (ba (Below.refl w.heap.size w) (.cells #[.int .i64 W, .int .i64 H, .slice u n c] 25)) (.cells #[.int .i64 0, .int .i64 0, .slice none 0 0] 25))
  have HV2 := hide (vb_new2 w 25 [.int .i64 0, .int .i64 0, .slice none 0 0] (.cells #[.int .i64 W, .int .i64 H, .slice u n c] 25))
  unfold fldV at *
  generalize (decide (0 ≤ r) && decide (r ≤ 3)) = rb at *
  generalize fokB W H T = fb at *
  clear hO hl hu
  go_enter Try.func16, Try.ntmps16
  go_wp2_with fail
  refine (unhide HK _ (unhide HB)).mono ?_
  rintro e W1 ⟨rfl, hb1⟩
  have v3 := (unhide HV2).bel hb1
  have j0 := v3.cell (m := 0) rfl
  have j1 := v3.cell (m := 1) rfl
  have j2 := v3.cell (m := 2) rfl
  have jf := v3.frozen
  have HB1 := hide (bc (unhide HB) hb1)
  clear hb1 v3
  cases fb with
  | false =>
    go_wp2_with fail
    exact bodyPost_ret (v := .tuple #[.agg #[.int .i64 0, .int .i64 0, .slice none 0 0], .int .i64 1]) (by simp [results, Try.results16, go_sem, j0, j1, j2]) rfl ⟨rfl, Below.setCell (Below.setCell (Below.setCell (unhide HB1) (Nat.le_add_right _ _) _) (Nat.le_add_right _ _) _) (Nat.le_add_right _ _) _⟩
  | true =>
    obtain rfl : rb = false := (unhide HO) rfl
    go_wp2_with fail
    refine (unhide HR _).mono ?_
    rintro e W1' ⟨rfl, rfl⟩
    go_wp2_with fail
    exact bodyPost_ret (v := .tuple #[.agg #[.int .i64 0, .int .i64 0, .slice none 0 0], .int .i64 1]) (by simp [results, Try.results16, go_sem, j0, j1, j2]) rfl ⟨rfl, Below.setCell (Below.setCell (Below.setCell (unhide HB1) (Nat.le_add_right _ _) _) (Nat.le_add_right _ _) _) (Nat.le_add_right _ _) _⟩
end Go.Proofs.Ytbjljofgpbecbaa
