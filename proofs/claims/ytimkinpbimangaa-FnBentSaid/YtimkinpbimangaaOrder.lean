/-
  The order of points, boxes of two points, points as spots, of both sides.
-/
import Derived.Test.YtimkinpbimangaaSpot
namespace Go.Proofs.Ytimkinpbimangaa
open Go.ChangeShapes Go.WideShapes Go.ChangeAt Go.RowKit
set_option linter.unusedVariables false
set_option linter.unusedSimpArgs false

theorem less_ints (a1 a2 b1 b2 : Int) (w : World) :
    Calls Try.prog 91 #[.agg #[.int .i64 a1, .int .i64 a2], .agg #[.int .i64 b1, .int .i64 b2]] w fun e w' => e = .returned (.bool (ltp (a1, a2) (b1, b2))) ∧ Below w.heap.size w w' := by
  by_cases h1 : a1 < b1
  · have b1' : decide (a1 < b1) = true := decide_eq_true h1
    have e : ltp (a1, a2) (b1, b2) = true := by simp [ltp, h1]
    rw [e]
    clear e
    go_enter Try.func91, Try.ntmps91
    go_wp2
    go_ret
    exact ⟨rfl, ba (ba (Below.refl _ _) _) _⟩
  · have b1' : decide (a1 < b1) = false := decide_eq_false h1
    by_cases h2 : a1 = b1
    · subst h2
      have e : ltp (a1, a2) (a1, b2) = decide (a2 < b2) := by simp [ltp]
      rw [e]
      clear e
      go_enter Try.func91, Try.ntmps91
      go_wp2
      go_ret
      exact ⟨rfl, ba (ba (Below.refl _ _) _) _⟩
    · have b2' : (a1 == b1) = false := beq_false_of_ne h2
      have e : ltp (a1, a2) (b1, b2) = false := by simp [ltp, h1, h2]
      rw [e]
      clear e
      go_enter Try.func91, Try.ntmps91
      go_wp2
      go_ret
      exact ⟨rfl, ba (ba (Below.refl _ _) _) _⟩

set_option maxHeartbeats 1000000 in
theorem on_ints (a1 a2 b1 b2 p1 p2 : Int) (w : World) :
    Calls Try.prog 79 #[.agg #[.int .i64 a1, .int .i64 a2], .agg #[.int .i64 b1, .int .i64 b2], .agg #[.int .i64 p1, .int .i64 p2]] w fun e w' => e = .returned (.bool (onB (a1, a2) (b1, b2) (p1, p2))) ∧ Below w.heap.size w w' := by
  generalize ht : onB (a1, a2) (b1, b2) (p1, p2) = t
  have HT := hide ht
  clear ht
  go_enter Try.func79, Try.ntmps79
  go_wp2
  all_goals
    go_ret
    refine ⟨ret_bool ?_, ba (ba (ba (Below.refl _ _) _) _) _⟩
    rw [← unhide HT, Bool.eq_iff_iff]
    simp only [onB, decide_eq_true_eq, Bool.false_eq_true, false_iff, true_iff]
    omega
theorem whole_ints (a1 a2 : Int) (w : World) :
    Calls Try.prog 80 #[.agg #[.int .i64 a1, .int .i64 a2]] w fun e w' => e = .returned (.agg #[.int .i64 a1, .int .i64 a2, .int .i64 1]) ∧ w' = (w.alloc (.cells #[.int .i64 a1, .int .i64 a2] 32)).alloc (.cells #[.int .i64 a1, .int .i64 a2, .int .i64 1] 93) := by
  go_enter Try.func80, Try.ntmps80
  go_wp2
  exact bodyPost_ret (v := .agg #[.int .i64 a1, .int .i64 a2, .int .i64 1]) (by simp [results, Try.results80, go_sem]) rfl ⟨rfl, by simp [go_sem]⟩

def cmpI (x y : Int) : Int := if x < y then -1 else if y < x then 1 else 0
theorem nan_any (x : Int) (w : World) : Calls Try.prog 94 #[.int .i64 x] w fun e w' => e = .returned (.bool false) ∧ w' = w := by
  go_enter Try.func94, Try.ntmps94
  go_wp2
  go_ret
  exact ⟨rfl, rfl⟩
theorem compare_any (x y : Int) (w : World) : Calls Try.prog 93 #[.int .i64 x, .int .i64 y] w fun e w' => e = .returned (.int .i64 (cmpI x y)) ∧ w' = w := by
  by_cases h1 : x < y
  · have b1 : decide (x < y) = true := decide_eq_true h1
    have e : cmpI x y = -1 := by simp [cmpI, h1]
    rw [e]
    clear e
    go_enter Try.func93, Try.ntmps93
    go_wp2_with (go_at_call 94; refine (nan_any _ _).mono ?_; rintro e w' ⟨rfl, rfl⟩)
    go_ret
    exact ⟨rfl, rfl⟩
  · have b1 : decide (x < y) = false := decide_eq_false h1
    by_cases h2 : y < x
    · have b2 : decide (y < x) = true := decide_eq_true h2
      have e : cmpI x y = 1 := by simp [cmpI, h1, h2]
      rw [e]
      clear e
      go_enter Try.func93, Try.ntmps93
      go_wp2_with (go_at_call 94; refine (nan_any _ _).mono ?_; rintro e w' ⟨rfl, rfl⟩)
      go_ret
      exact ⟨rfl, rfl⟩
    · have b2 : decide (y < x) = false := decide_eq_false h2
      have e : cmpI x y = 0 := by simp [cmpI, h1, h2]
      rw [e]
      clear e
      go_enter Try.func93, Try.ntmps93
      go_wp2_with (go_at_call 94; refine (nan_any _ _).mono ?_; rintro e w' ⟨rfl, rfl⟩)
      go_ret
      exact ⟨rfl, rfl⟩
def orI (x y : Int) : Int := if x = 0 then y else x
theorem or_any (x y : Int) (b cap : Nat) (w : World) (h0 : w.cell? ⟨b, 0, none⟩ = some (.int .i64 x)) (h1 : w.cell? ⟨b, 1, none⟩ = some (.int .i64 y)) :
    Calls Try.prog 92 #[.slice (some ⟨b, 0, none⟩) 2 cap] w fun e w' => e = .returned (.int .i64 (orI x y)) ∧ w' = w := by
  go_enter Try.func92, Try.ntmps92
  go_wp2
  go_loopw [8] (fun s W => ∃ i : Nat, s = .int .i64 (i : Int) ∧ i ≤ 2 ∧ (0 < i → x = 0) ∧ (1 < i → y = 0) ∧ W = w) (fun s _ => 2 - (intOf s).toNat)
  case atStart => exact ⟨0, rfl, by omega, by omega, by omega, rfl⟩
  case round =>
    obtain ⟨i, rfl, hi, hx, hy, rfl⟩ := hrel
    have HX := hide hx
    have HY := hide hy
    clear hx hy
    obtain rfl | rfl | rfl : i = 0 ∨ i = 1 ∨ i = 2 := by omega
    · by_cases h : x = 0
      · have e1 : (x != 0) = false := by simp [h]
        have e2 : (x == 0) = true := by simp [h]
        have H := hide h
        clear h
        go_wp2
        go_roundw
        case rel => exact ⟨1, rfl, by omega, fun _ => unhide H, by omega, by first | rfl | trivial⟩
        case measure => simp [intOf]
      · have e1 : (x != 0) = true := by simp [h]
        have e2 : (x == 0) = false := by simp [h]
        go_wp2
        go_ret
        exact ⟨ret_int (by simp [orI, h]), rfl⟩
    · have hx := unhide HX (by omega)
      subst hx
      by_cases h : y = 0
      · have e1 : (y != 0) = false := by simp [h]
        have e2 : (y == 0) = true := by simp [h]
        have H := hide h
        clear h
        go_wp2
        go_roundw
        case rel => exact ⟨2, rfl, by omega, by simp, fun _ => unhide H, by first | rfl | trivial⟩
        case measure => simp [intOf]
      · have e1 : (y != 0) = true := by simp [h]
        have e2 : (y == 0) = false := by simp [h]
        go_wp2
        go_ret
        exact ⟨ret_int (by simp [orI]), rfl⟩
    · have hx := unhide HX (by omega)
      have hy := unhide HY (by omega)
      subst hx hy
      go_wp2
      go_ret
      exact ⟨ret_int (by simp [orI]), rfl⟩
end Go.Proofs.Ytimkinpbimangaa
