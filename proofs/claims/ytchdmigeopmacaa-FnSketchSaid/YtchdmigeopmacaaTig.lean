/-
  Points that are lower by one: the laws' lower and below.
-/
import Derived.Test.YtchdmigeopmacaaCoMath
import Derived.Test.YtchdmigeopmacaaKpo
namespace Go.Proofs.Ytchdmigeopmacaa
open Go.ChangeShapes Go.WideShapes Go.ChangeAt Go.RowKit
set_option linter.unusedVariables false
set_option linter.unusedSimpArgs false

/-- a point that is lower by one along an axis -/
def lwX (ax : Nat) (x : Int) : Int := if ax = 0 then x - 1 else x
def lwY (ax : Nat) (y : Int) : Int := if ax = 0 then y else y - 1
set_option maxHeartbeats 1000000 in
theorem lower_any (x y : Int) (ax : Nat) (w : World) (hx : -1000000 ≤ x ∧ x ≤ 1000000) (hy : -1000000 ≤ y ∧ y ≤ 1000000) (ha : ax < 2) :
    Calls Try.prog 29 #[.agg #[.int .i64 x, .int .i64 y], .int .i64 (ax : Int)] w fun e w' => e = .returned (.agg #[.int .i64 (lwX ax x), .int .i64 (lwY ax y)]) ∧ Below w.heap.size w w' := by
  have w1 : IntKind.i64.wrap (x - 1) = x - 1 := wrap_i (by omega) (by omega)
  have w2 : IntKind.i64.wrap (y - 1) = y - 1 := wrap_i (by omega) (by omega)
  have h2 : ax = 0 ∨ ax = 1 := by omega
  rcases h2 with rfl | rfl
  · go_enter Try.func29, Try.ntmps29
    go_wp2_with fail
    exact bodyPost_ret (v := .agg #[.int .i64 (x - 1), .int .i64 y]) (by simp [results, Try.results29, go_sem]) rfl ⟨rfl, by repeat (first | exact Below.refl _ _ | refine ba ?_ _ | refine Below.setCell ?_ (by simp) _)⟩
  · go_enter Try.func29, Try.ntmps29
    go_wp2_with fail
    exact bodyPost_ret (v := .agg #[.int .i64 x, .int .i64 (y - 1)]) (by simp [results, Try.results29, go_sem]) rfl ⟨rfl, by repeat (first | exact Below.refl _ _ | refine ba ?_ _ | refine Below.setCell ?_ (by simp) _)⟩

/-- no number is below 0, if the answer is false -/
def BlA (Q : List Int) (n : Nat) (e : Ending) : Prop := ∃ b : Bool, e = .returned (.bool b) ∧ (b = false → ∀ j, j < n * 2 → 0 ≤ gt Q j)
set_option maxHeartbeats 1000000 in
theorem below_any (g n c : Nat) (Q : List Int) (w : World) (hl : Q.length = n * 2) (hn : n ≤ 1000) (hg : g < w.heap.size) (hI : IntsAt w g 0 Q) :
    Calls Try.prog 30 #[.slice (some ⟨g, 0, none⟩) n c] w fun e w' => BlA Q n e ∧ Below w.heap.size w w' := by
  have HC : Hid (∀ j, j < n * 2 → w.cell? ⟨g, j, none⟩ = some (.int .i64 (gt Q j))) := hide fun j hj => by have := hI _ _ (gtk_some (show j < Q.length by omega)); rwa [Nat.zero_add] at this
  clear hI
  go_enter Try.func30, Try.ntmps30
  go_wp2_with fail
  go_loopw [3] (fun s W => ∃ i : Nat, s = .int .i64 (i : Int) ∧ i ≤ n ∧ (∀ j, j < i * 2 → 0 ≤ gt Q j) ∧ W = w) (fun s _ => n - (intOf s).toNat)
  case atStart => exact ⟨0, rfl, by omega, fun j hj => by omega, rfl⟩
  case round =>
    obtain ⟨i, rfl, hi, hal, rfl⟩ := hrel
    have HAL := hide hal
    clear hal
    by_cases h : i < n
    · have i1 : (i : Int) < (n : Int) := by omega
      have i0 : (0 : Int) ≤ (i : Int) := Int.natCast_nonneg _
      have iz : decide ((i : Int) < (n : Int)) = true := decide_eq_true i1
      have cx := unhide HC (i * 2) (by omega)
      have cy := unhide HC (i * 2 + 1) (by omega)
      by_cases hx : gt Q (i * 2) < 0
      · have dx : decide (gt Q (i * 2) < 0) = true := decide_eq_true hx
        go_wp2_with fail
        go_ret
        exact ⟨⟨true, rfl, fun h => nomatch h⟩, Below.refl _ _⟩
      · have dx : decide (gt Q (i * 2) < 0) = false := decide_eq_false hx
        by_cases hy : gt Q (i * 2 + 1) < 0
        · have dy : decide (gt Q (i * 2 + 1) < 0) = true := decide_eq_true hy
          go_wp2_with fail
          go_ret
          exact ⟨⟨true, rfl, fun h => nomatch h⟩, Below.refl _ _⟩
        · have dy : decide (gt Q (i * 2 + 1) < 0) = false := decide_eq_false hy
          go_wp2_with fail
          go_roundw
          case rel =>
            refine ⟨i + 1, by simp, h, fun j hj => ?_, by first | rfl | trivial⟩
            have h3 : j < i * 2 ∨ j = i * 2 ∨ j = i * 2 + 1 := by omega
            rcases h3 with h3 | rfl | rfl
            · exact unhide HAL j h3
            · omega
            · omega
          case measure => simp only [intOf]; omega
    · have i1 : ¬ (i : Int) < (n : Int) := by omega
      have iz : decide ((i : Int) < (n : Int)) = false := decide_eq_false i1
      have en : i = n := by omega
      subst en
      go_wp2_with fail
      go_ret
      exact ⟨⟨false, rfl, fun _ => unhide HAL⟩, Below.refl _ _⟩
end Go.Proofs.Ytchdmigeopmacaa
