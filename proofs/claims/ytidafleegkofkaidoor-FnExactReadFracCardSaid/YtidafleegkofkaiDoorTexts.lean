/-
  A fraction's text, by the model and by the program.
-/
import Derived.Test.YtidafleegkofkaiDoorDigits
import Derived.Lib.AppendIntMem
namespace Go.Proofs.YtidafleegkofkaiDoor
open Go.ChangeShapes Go.WideShapes Go.ChangeAt Go.RowKit
set_option linter.unusedVariables false
set_option linter.unusedSimpArgs false

/-- the table that the decimal numerals are read off, whatever is done from block B on -/
def Tab (B : Nat) (w : World) : Prop := Lib.TabBelow Tryd.prog B w "internal/strconv.uint64pow10" .u64 Lib.pow10Tab

def itoaS (n : Int) : ByteArray := ⟨(Lib.itoa n).toArray⟩
def txt (n d : Int) : ByteArray := if 1 < d then itoaS n ++ (⟨#[47]⟩ ++ itoaS d) else itoaS n
def txAns (n d : Int) : Value := if frOk n d = true then .tuple #[.string (txt n d), .int .i64 0] else .tuple #[.string ⟨#[]⟩, .int .i64 1]

theorem itoa_size (n : Int) (h1 : -1000000000 ≤ n) (h2 : n ≤ 1000000000) : (itoaS n).size ≤ 30 := by
  unfold itoaS Lib.itoa
  split
  · have := dec_size n.natAbs (by omega)
    simp [ByteArray.size]; omega
  · have := dec_size n.toNat (by omega)
    simp [ByteArray.size]; omega

theorem impItoa_any (n : Int) {B : Nat} {w0 : World} (w : World) (ht : Tab B w0) (hb : Below B w0 w) (h1 : -1000000000 ≤ n) (h2 : n ≤ 1000000000) :
    Calls Tryd.prog 14 #[.int .i64 n] w fun e w' => e = .returned (.string (itoaS n)) ∧ Below w.heap.size w w' := by
  refine (Tryd.strconv_Itoa n (by omega) (by omega) w (ht w hb)).mono ?_
  rintro e w' ⟨rfl, k, os, rfl⟩
  exact ⟨rfl, Lib.below_grow _ w (Nat.le_refl _) k os⟩
theorem dig_s (n : Int) (w : World) (h1 : -1000000000 ≤ n) (h2 : n ≤ 1000000000) :
    Calls Tryd.prog 12 #[.int .i64 n] w fun e w' => e = .returned (.string (itoaS n)) ∧ Below w.heap.size w w' := dig_any n w h1 h2

set_option maxHeartbeats 400000 in
theorem specText_bad (n d : Int) (w : World) (H0 : Hid (frOk n d = false))  :
    Calls Tryd.prog 5 #[.agg #[.int .i64 n, .int .i64 d]] w fun e w' => e = .returned (.tuple #[.string ⟨#[]⟩, .int .i64 1]) ∧ Below w.heap.size w w' := by
  go_enter Tryd.func5, Tryd.ntmps5
  go_wp2_with fail
  refine (specOK_any _ _ _).mono ?_
  rintro e w1 ⟨rfl, hb⟩
  rw [unhide H0]
  have HB := hide hb
  have x0 := keep1 hb (b := w.heap.size) (o := 0) (v := .int .i64 n) (by simp [go_sem])
  have x1 := keep1 hb (b := w.heap.size) (o := 1) (v := .int .i64 d) (by simp [go_sem])
  clear hb
  go_wp2
  go_ret2
  exact ⟨rfl, bel_call (bel_alloc (Below.refl _ _) _) (unhide HB)⟩

set_option maxHeartbeats 400000 in
theorem specText_one (n d : Int) (w : World) (H0 : Hid (frOk n d = true)) (hd : ¬ 1 < d)   :
    Calls Tryd.prog 5 #[.agg #[.int .i64 n, .int .i64 d]] w fun e w' => e = .returned (.tuple #[.string (itoaS n), .int .i64 0]) ∧ Below w.heap.size w w' := by
  obtain ⟨⟨c1, c2⟩, c3, c4⟩ := ok_bd (unhide H0)
  go_enter Tryd.func5, Tryd.ntmps5
  go_wp2_with fail
  refine (specOK_any _ _ _).mono ?_
  rintro e w1 ⟨rfl, hb⟩
  rw [unhide H0]
  have HB := hide hb
  have x0 := keep1 hb (b := w.heap.size) (o := 0) (v := .int .i64 n) (by simp [go_sem])
  have x1 := keep1 hb (b := w.heap.size) (o := 1) (v := .int .i64 d) (by simp [go_sem])
  clear hb
  go_wp2_with fail
  refine (dig_s n _ (by omega) (by omega)).mono ?_
  rintro e w2 ⟨rfl, hb⟩
  have HB2 := hide hb
  have y1 := keep1 hb x1
  clear hb x0 x1
  go_wp2
  go_ret2
  exact ⟨rfl, bel_call (bel_call (bel_alloc (Below.refl _ _) _) (unhide HB)) (unhide HB2)⟩

set_option maxHeartbeats 400000 in
theorem specText_two (n d : Int) (w : World) (H0 : Hid (frOk n d = true)) (hd : 1 < d)   :
    Calls Tryd.prog 5 #[.agg #[.int .i64 n, .int .i64 d]] w fun e w' => e = .returned (.tuple #[.string (itoaS n ++ (⟨#[47]⟩ ++ itoaS d)), .int .i64 0]) ∧ Below w.heap.size w w' := by
  obtain ⟨⟨c1, c2⟩, c3, c4⟩ := ok_bd (unhide H0)
  have sn := itoa_size n c1 c2
  have sd := itoa_size d (by omega) c4
  go_enter Tryd.func5, Tryd.ntmps5
  go_wp2_with fail
  refine (specOK_any _ _ _).mono ?_
  rintro e w1 ⟨rfl, hb⟩
  rw [unhide H0]
  have HB := hide hb
  have x0 := keep1 hb (b := w.heap.size) (o := 0) (v := .int .i64 n) (by simp [go_sem])
  have x1 := keep1 hb (b := w.heap.size) (o := 1) (v := .int .i64 d) (by simp [go_sem])
  clear hb
  go_wp2_with fail
  refine (dig_s n _ (by omega) (by omega)).mono ?_
  rintro e w2 ⟨rfl, hb⟩
  have HB2 := hide hb
  have y1 := keep1 hb x1
  clear hb x0 x1
  go_wp2_with fail
  refine (dig_s d _ (by omega) (by omega)).mono ?_
  rintro e w3 ⟨rfl, hb⟩
  have HB3 := hide hb
  clear hb y1
  go_wp2
  go_ret2
  exact ⟨rfl, bel_call (bel_call (bel_call (bel_alloc (Below.refl _ _) _) (unhide HB)) (unhide HB2)) (unhide HB3)⟩
theorem specText_any (n d : Int) (w : World)   :
    Calls Tryd.prog 5 #[.agg #[.int .i64 n, .int .i64 d]] w fun e w' => e = .returned (txAns n d) ∧ Below w.heap.size w w' := by
  unfold txAns txt
  by_cases h0 : frOk n d = true
  · rw [if_pos h0]
    by_cases hd : 1 < d
    · rw [if_pos hd]
      exact specText_two n d w (hide h0) hd  
    · rw [if_neg hd]
      exact specText_one n d w (hide h0) hd  
  · rw [if_neg h0]
    exact specText_bad n d w (hide (by simpa using h0)) 

set_option maxHeartbeats 400000 in
theorem implText_bad (n d : Int) (w : World) (H0 : Hid (frOk n d = false)) (a1 : -9223372036854775808 ≤ n) (a2 : n ≤ 9223372036854775807) (a3 : -9223372036854775808 ≤ d) (a4 : d ≤ 9223372036854775807) :
    Calls Tryd.prog 7 #[.agg #[.int .i64 n, .int .i64 d]] w fun e w' => e = .returned (.tuple #[.string ⟨#[]⟩, .int .i64 1]) ∧ Below w.heap.size w w' := by
  go_enter Tryd.func7, Tryd.ntmps7
  go_wp2_with fail
  refine (implOK_any _ _ _ a1 a2 a3 a4).mono ?_
  rintro e w1 ⟨rfl, hb⟩
  rw [unhide H0]
  have HB := hide hb
  have x0 := keep1 hb (b := w.heap.size) (o := 0) (v := .int .i64 n) (by simp [go_sem])
  have x1 := keep1 hb (b := w.heap.size) (o := 1) (v := .int .i64 d) (by simp [go_sem])
  clear hb
  go_wp2
  go_ret2
  exact ⟨rfl, bel_call (bel_alloc (Below.refl _ _) _) (unhide HB)⟩

set_option maxHeartbeats 400000 in
theorem implText_one (n d : Int) (w : World) (H0 : Hid (frOk n d = true)) (hd : ¬ 1 < d) (a1 : -9223372036854775808 ≤ n) (a2 : n ≤ 9223372036854775807) (a3 : -9223372036854775808 ≤ d) (a4 : d ≤ 9223372036854775807) {B : Nat} {w0 : World} (HT : Hid (Tab B w0)) (H0w : Hid (Below B w0 w)) (hBw : B ≤ w.heap.size) :
    Calls Tryd.prog 7 #[.agg #[.int .i64 n, .int .i64 d]] w fun e w' => e = .returned (.tuple #[.string (itoaS n), .int .i64 0]) ∧ Below w.heap.size w w' := by
  obtain ⟨⟨c1, c2⟩, c3, c4⟩ := ok_bd (unhide H0)
  go_enter Tryd.func7, Tryd.ntmps7
  go_wp2_with fail
  refine (implOK_any _ _ _ a1 a2 a3 a4).mono ?_
  rintro e w1 ⟨rfl, hb⟩
  rw [unhide H0]
  have HB := hide hb
  have x0 := keep1 hb (b := w.heap.size) (o := 0) (v := .int .i64 n) (by simp [go_sem])
  have x1 := keep1 hb (b := w.heap.size) (o := 1) (v := .int .i64 d) (by simp [go_sem])
  clear hb
  go_wp2_with fail
  refine (impItoa_any n _ (unhide HT) (by exact ((unhide H0w).trans ((bel_call (bel_alloc (Below.refl _ _) _) (unhide HB)).mono hBw))) (by omega) (by omega)).mono ?_
  rintro e w2 ⟨rfl, hb⟩
  have HB2 := hide hb
  have y1 := keep1 hb x1
  clear hb x0 x1
  go_wp2
  go_ret2
  exact ⟨rfl, bel_call (bel_call (bel_alloc (Below.refl _ _) _) (unhide HB)) (unhide HB2)⟩

set_option maxHeartbeats 400000 in
theorem implText_two (n d : Int) (w : World) (H0 : Hid (frOk n d = true)) (hd : 1 < d) (a1 : -9223372036854775808 ≤ n) (a2 : n ≤ 9223372036854775807) (a3 : -9223372036854775808 ≤ d) (a4 : d ≤ 9223372036854775807) {B : Nat} {w0 : World} (HT : Hid (Tab B w0)) (H0w : Hid (Below B w0 w)) (hBw : B ≤ w.heap.size) :
    Calls Tryd.prog 7 #[.agg #[.int .i64 n, .int .i64 d]] w fun e w' => e = .returned (.tuple #[.string (itoaS n ++ (⟨#[47]⟩ ++ itoaS d)), .int .i64 0]) ∧ Below w.heap.size w w' := by
  obtain ⟨⟨c1, c2⟩, c3, c4⟩ := ok_bd (unhide H0)
  have sn := itoa_size n c1 c2
  have sd := itoa_size d (by omega) c4
  go_enter Tryd.func7, Tryd.ntmps7
  go_wp2_with fail
  refine (implOK_any _ _ _ a1 a2 a3 a4).mono ?_
  rintro e w1 ⟨rfl, hb⟩
  rw [unhide H0]
  have HB := hide hb
  have x0 := keep1 hb (b := w.heap.size) (o := 0) (v := .int .i64 n) (by simp [go_sem])
  have x1 := keep1 hb (b := w.heap.size) (o := 1) (v := .int .i64 d) (by simp [go_sem])
  clear hb
  go_wp2_with fail
  refine (impItoa_any n _ (unhide HT) (by exact ((unhide H0w).trans ((bel_call (bel_alloc (Below.refl _ _) _) (unhide HB)).mono hBw))) (by omega) (by omega)).mono ?_
  rintro e w2 ⟨rfl, hb⟩
  have HB2 := hide hb
  have y1 := keep1 hb x1
  clear hb x0 x1
  go_wp2_with fail
  refine (impItoa_any d _ (unhide HT) (by exact ((unhide H0w).trans ((bel_call (bel_call (bel_alloc (Below.refl _ _) _) (unhide HB)) (unhide HB2)).mono hBw))) (by omega) (by omega)).mono ?_
  rintro e w3 ⟨rfl, hb⟩
  have HB3 := hide hb
  clear hb y1
  go_wp2
  go_ret2
  exact ⟨rfl, bel_call (bel_call (bel_call (bel_alloc (Below.refl _ _) _) (unhide HB)) (unhide HB2)) (unhide HB3)⟩
theorem implText_any (n d : Int) (w : World) (a1 : -9223372036854775808 ≤ n) (a2 : n ≤ 9223372036854775807) (a3 : -9223372036854775808 ≤ d) (a4 : d ≤ 9223372036854775807) {B : Nat} {w0 : World} (HT : Hid (Tab B w0)) (H0w : Hid (Below B w0 w)) (hBw : B ≤ w.heap.size) :
    Calls Tryd.prog 7 #[.agg #[.int .i64 n, .int .i64 d]] w fun e w' => e = .returned (txAns n d) ∧ Below w.heap.size w w' := by
  unfold txAns txt
  by_cases h0 : frOk n d = true
  · rw [if_pos h0]
    by_cases hd : 1 < d
    · rw [if_pos hd]
      exact implText_two n d w (hide h0) hd a1 a2 a3 a4 HT H0w hBw
    · rw [if_neg hd]
      exact implText_one n d w (hide h0) hd a1 a2 a3 a4 HT H0w hBw
  · rw [if_neg h0]
    exact implText_bad n d w (hide (by simpa using h0)) a1 a2 a3 a4

end Go.Proofs.YtidafleegkofkaiDoor
