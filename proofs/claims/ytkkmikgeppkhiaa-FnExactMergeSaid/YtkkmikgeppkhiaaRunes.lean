/-
  What the small functions of names answer: letters and digits.
-/
import Derived.Test.YtkkmikgeppkhiaaBase
import Derived.WalkKit
import Derived.ProofKit
import Derived.OpenShut
import Derived.Test.YtkkmikgeppkhiaaNmMath
namespace Go.Proofs.Ytkkmikgeppkhiaa
open Go.ChangeShapes Go.WideShapes Go.ChangeAt Go.RowKit
set_option linter.unusedVariables false
set_option linter.unusedSimpArgs false



theorem digit_any (r : Nat) (w : World) (h : r ≤ 2147483647) :
    Calls Try.prog 107 #[.int .i32 (r : Int)] w fun e w' => e = .returned (.bool (isDigit r)) ∧ w' = w := by
  rcases (by omega : r < 48 ∨ (48 ≤ r ∧ r ≤ 57) ∨ (48 ≤ r ∧ 57 < r)) with h1 | ⟨h1, h2⟩ | ⟨h1, h2⟩
  · rw [show isDigit r = false from decide_eq_false (by omega)]
    go_enter Try.func107, Try.ntmps107
    go_wp2
    go_ret
    exact ⟨ret_bool (by first | rfl | (simp; omega)), rfl⟩
  · rw [show isDigit r = true from decide_eq_true (by omega)]
    go_enter Try.func107, Try.ntmps107
    go_wp2
    go_ret
    exact ⟨ret_bool (by first | rfl | (simp; omega)), rfl⟩
  · rw [show isDigit r = false from decide_eq_false (by omega)]
    go_enter Try.func107, Try.ntmps107
    go_wp2
    go_ret
    exact ⟨ret_bool (by first | rfl | (simp; omega)), rfl⟩

theorem rune_yes (r : Nat) (h : ((97 ≤ r ∧ r ≤ 122) ∨ (65 ≤ r ∧ r ≤ 90) ∨ r = 95) ∨ ((192 ≤ r ∧ r ≤ 591 ∧ r ≠ 215 ∧ r ≠ 247) ∨ (913 ≤ r ∧ r ≤ 969) ∨ (1040 ≤ r ∧ r ≤ 1103))) : runeB r = true := by
  rcases h with h | h
  · simp only [runeB, show isAscii r = true from decide_eq_true h, Bool.true_or]
  · simp only [runeB, show isFar r = true from decide_eq_true h, Bool.or_true]
theorem rune_no (r : Nat) (h1 : ¬ ((97 ≤ r ∧ r ≤ 122) ∨ (65 ≤ r ∧ r ≤ 90) ∨ r = 95)) (h2 : ¬ ((192 ≤ r ∧ r ≤ 591 ∧ r ≠ 215 ∧ r ≠ 247) ∨ (913 ≤ r ∧ r ≤ 969) ∨ (1040 ≤ r ∧ r ≤ 1103))) : runeB r = false := by
  simp only [runeB, show isAscii r = false from decide_eq_false h1, show isFar r = false from decide_eq_false h2, Bool.or_self]

theorem letter_0 (r : Nat) (w : World) (h1 : 0 ≤ r) (h2 : r ≤ 64) :
    Calls Try.prog 106 #[.int .i32 (r : Int)] w fun e w' => e = .returned (.bool false) ∧ w' = w := by
  go_enter Try.func106, Try.ntmps106
  go_wp2
  go_ret
  exact ⟨ret_bool (by first | rfl | (simp; omega)), rfl⟩
theorem letter_1 (r : Nat) (w : World) (h1 : 65 ≤ r) (h2 : r ≤ 90) :
    Calls Try.prog 106 #[.int .i32 (r : Int)] w fun e w' => e = .returned (.bool true) ∧ w' = w := by
  go_enter Try.func106, Try.ntmps106
  go_wp2
  go_ret
  exact ⟨ret_bool (by first | rfl | (simp; omega)), rfl⟩
theorem letter_2 (r : Nat) (w : World) (h1 : 91 ≤ r) (h2 : r ≤ 94) :
    Calls Try.prog 106 #[.int .i32 (r : Int)] w fun e w' => e = .returned (.bool false) ∧ w' = w := by
  go_enter Try.func106, Try.ntmps106
  go_wp2
  go_ret
  exact ⟨ret_bool (by first | rfl | (simp; omega)), rfl⟩
theorem letter_3 (r : Nat) (w : World) (h1 : 95 ≤ r) (h2 : r ≤ 95) :
    Calls Try.prog 106 #[.int .i32 (r : Int)] w fun e w' => e = .returned (.bool true) ∧ w' = w := by
  go_enter Try.func106, Try.ntmps106
  go_wp2
  go_ret
  exact ⟨ret_bool (by first | rfl | (simp; omega)), rfl⟩
theorem letter_4 (r : Nat) (w : World) (h1 : 96 ≤ r) (h2 : r ≤ 96) :
    Calls Try.prog 106 #[.int .i32 (r : Int)] w fun e w' => e = .returned (.bool false) ∧ w' = w := by
  go_enter Try.func106, Try.ntmps106
  go_wp2
  go_ret
  exact ⟨ret_bool (by first | rfl | (simp; omega)), rfl⟩
theorem letter_5 (r : Nat) (w : World) (h1 : 97 ≤ r) (h2 : r ≤ 122) :
    Calls Try.prog 106 #[.int .i32 (r : Int)] w fun e w' => e = .returned (.bool true) ∧ w' = w := by
  go_enter Try.func106, Try.ntmps106
  go_wp2
  go_ret
  exact ⟨ret_bool (by first | rfl | (simp; omega)), rfl⟩
theorem letter_6 (r : Nat) (w : World) (h1 : 123 ≤ r) (h2 : r ≤ 191) :
    Calls Try.prog 106 #[.int .i32 (r : Int)] w fun e w' => e = .returned (.bool false) ∧ w' = w := by
  go_enter Try.func106, Try.ntmps106
  go_wp2
  go_ret
  exact ⟨ret_bool (by first | rfl | (simp; omega)), rfl⟩
theorem letter_7 (r : Nat) (w : World) (h1 : 192 ≤ r) (h2 : r ≤ 214) :
    Calls Try.prog 106 #[.int .i32 (r : Int)] w fun e w' => e = .returned (.bool true) ∧ w' = w := by
  go_enter Try.func106, Try.ntmps106
  go_wp2
  go_ret
  exact ⟨ret_bool (by first | rfl | (simp; omega)), rfl⟩
theorem letter_8 (r : Nat) (w : World) (h1 : 215 ≤ r) (h2 : r ≤ 215) :
    Calls Try.prog 106 #[.int .i32 (r : Int)] w fun e w' => e = .returned (.bool false) ∧ w' = w := by
  go_enter Try.func106, Try.ntmps106
  go_wp2
  go_ret
  exact ⟨ret_bool (by first | rfl | (simp; omega)), rfl⟩
theorem letter_9 (r : Nat) (w : World) (h1 : 216 ≤ r) (h2 : r ≤ 246) :
    Calls Try.prog 106 #[.int .i32 (r : Int)] w fun e w' => e = .returned (.bool true) ∧ w' = w := by
  go_enter Try.func106, Try.ntmps106
  go_wp2
  go_ret
  exact ⟨ret_bool (by first | rfl | (simp; omega)), rfl⟩
theorem letter_10 (r : Nat) (w : World) (h1 : 247 ≤ r) (h2 : r ≤ 247) :
    Calls Try.prog 106 #[.int .i32 (r : Int)] w fun e w' => e = .returned (.bool false) ∧ w' = w := by
  go_enter Try.func106, Try.ntmps106
  go_wp2
  go_ret
  exact ⟨ret_bool (by first | rfl | (simp; omega)), rfl⟩
theorem letter_11 (r : Nat) (w : World) (h1 : 248 ≤ r) (h2 : r ≤ 591) :
    Calls Try.prog 106 #[.int .i32 (r : Int)] w fun e w' => e = .returned (.bool true) ∧ w' = w := by
  go_enter Try.func106, Try.ntmps106
  go_wp2
  go_ret
  exact ⟨ret_bool (by first | rfl | (simp; omega)), rfl⟩
theorem letter_12 (r : Nat) (w : World) (h1 : 592 ≤ r) (h2 : r ≤ 912) :
    Calls Try.prog 106 #[.int .i32 (r : Int)] w fun e w' => e = .returned (.bool false) ∧ w' = w := by
  go_enter Try.func106, Try.ntmps106
  go_wp2
  go_ret
  exact ⟨ret_bool (by first | rfl | (simp; omega)), rfl⟩
theorem letter_13 (r : Nat) (w : World) (h1 : 913 ≤ r) (h2 : r ≤ 969) :
    Calls Try.prog 106 #[.int .i32 (r : Int)] w fun e w' => e = .returned (.bool true) ∧ w' = w := by
  go_enter Try.func106, Try.ntmps106
  go_wp2
  go_ret
  exact ⟨ret_bool (by first | rfl | (simp; omega)), rfl⟩
theorem letter_14 (r : Nat) (w : World) (h1 : 970 ≤ r) (h2 : r ≤ 1039) :
    Calls Try.prog 106 #[.int .i32 (r : Int)] w fun e w' => e = .returned (.bool false) ∧ w' = w := by
  go_enter Try.func106, Try.ntmps106
  go_wp2
  go_ret
  exact ⟨ret_bool (by first | rfl | (simp; omega)), rfl⟩
theorem letter_15 (r : Nat) (w : World) (h1 : 1040 ≤ r) (h2 : r ≤ 1103) :
    Calls Try.prog 106 #[.int .i32 (r : Int)] w fun e w' => e = .returned (.bool true) ∧ w' = w := by
  go_enter Try.func106, Try.ntmps106
  go_wp2
  go_ret
  exact ⟨ret_bool (by first | rfl | (simp; omega)), rfl⟩
theorem letter_16 (r : Nat) (w : World) (h1 : 1104 ≤ r) (h2 : r ≤ 2147483647) :
    Calls Try.prog 106 #[.int .i32 (r : Int)] w fun e w' => e = .returned (.bool false) ∧ w' = w := by
  go_enter Try.func106, Try.ntmps106
  go_wp2
  go_ret
  exact ⟨ret_bool (by first | rfl | (simp; omega)), rfl⟩
theorem letter_any (r : Nat) (w : World) (h : r ≤ 2147483647) :
    Calls Try.prog 106 #[.int .i32 (r : Int)] w fun e w' => e = .returned (.bool (runeB r)) ∧ w' = w := by
  by_cases c0 : r ≤ 64
  · rw [rune_no r (by omega) (by omega)]
    exact letter_0 r w (by omega) c0
  by_cases c1 : r ≤ 90
  · rw [rune_yes r (by omega)]
    exact letter_1 r w (by omega) c1
  by_cases c2 : r ≤ 94
  · rw [rune_no r (by omega) (by omega)]
    exact letter_2 r w (by omega) c2
  by_cases c3 : r ≤ 95
  · rw [rune_yes r (by omega)]
    exact letter_3 r w (by omega) c3
  by_cases c4 : r ≤ 96
  · rw [rune_no r (by omega) (by omega)]
    exact letter_4 r w (by omega) c4
  by_cases c5 : r ≤ 122
  · rw [rune_yes r (by omega)]
    exact letter_5 r w (by omega) c5
  by_cases c6 : r ≤ 191
  · rw [rune_no r (by omega) (by omega)]
    exact letter_6 r w (by omega) c6
  by_cases c7 : r ≤ 214
  · rw [rune_yes r (by omega)]
    exact letter_7 r w (by omega) c7
  by_cases c8 : r ≤ 215
  · rw [rune_no r (by omega) (by omega)]
    exact letter_8 r w (by omega) c8
  by_cases c9 : r ≤ 246
  · rw [rune_yes r (by omega)]
    exact letter_9 r w (by omega) c9
  by_cases c10 : r ≤ 247
  · rw [rune_no r (by omega) (by omega)]
    exact letter_10 r w (by omega) c10
  by_cases c11 : r ≤ 591
  · rw [rune_yes r (by omega)]
    exact letter_11 r w (by omega) c11
  by_cases c12 : r ≤ 912
  · rw [rune_no r (by omega) (by omega)]
    exact letter_12 r w (by omega) c12
  by_cases c13 : r ≤ 969
  · rw [rune_yes r (by omega)]
    exact letter_13 r w (by omega) c13
  by_cases c14 : r ≤ 1039
  · rw [rune_no r (by omega) (by omega)]
    exact letter_14 r w (by omega) c14
  by_cases c15 : r ≤ 1103
  · rw [rune_yes r (by omega)]
    exact letter_15 r w (by omega) c15
  rw [rune_no r (by omega) (by omega)]
  exact letter_16 r w (by omega) h
end Go.Proofs.Ytkkmikgeppkhiaa
