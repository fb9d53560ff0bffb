/-
  A fraction's text, by the program.
-/
import Derived.Test.YtidafleegkofkaaDoorDrawn
import Derived.Test.YtidafleegkofkaaDoorShelf
import Derived.Test.YtidafleegkofkaaDoorTextMath
import Derived.Lib.AppendIntMem
namespace Go.Proofs.YtidafleegkofkaaDoor
open Go.ChangeShapes Go.WideShapes Go.ChangeAt Go.RowKit
set_option linter.unusedVariables false
set_option linter.unusedSimpArgs false

theorem ret_str {a b : ByteArray} (h : a = b) : Ending.returned (.string a) = .returned (.string b) := by rw [h]

theorem dec_len (m : Nat) : (Lib.decDigits m).length = Lib.nDigits m := by
  by_cases h : m < 10
  · rw [dec_small m h, Lib.nDigits_small h]; rfl
  · rw [dec_big m h, Lib.nDigits_big h, List.length_append, dec_len (m / 10)]; rfl

theorem nd_le (f : Nat) : ∀ m : Nat, m < 10 ^ f → Lib.nDigits m ≤ f + 1 := by
  induction f with
  | zero => intro m h; rw [Lib.nDigits_small (by omega)]; omega
  | succ f ih =>
    intro m h
    by_cases h0 : m < 10
    · rw [Lib.nDigits_small h0]; omega
    · rw [Lib.nDigits_big h0]
      have := ih (m / 10) (by rw [Nat.div_lt_iff_lt_mul (by omega)]; rw [Nat.pow_succ] at h; exact h)
      omega

theorem dec_size (m : Nat) (h : m ≤ 1000000000000000000) : (Lib.decDigits m).length ≤ 20 := by
  rw [dec_len]
  exact Nat.le_trans (nd_le 19 m (by omega)) (by omega)


/-- the table that the decimal numerals are read off, whatever is done from block B on -/
def Tab (B : Nat) (w : World) : Prop := Lib.TabBelow Tryd.prog B w "internal/strconv.uint64pow10" .u64 Lib.pow10Tab

def itoaS (n : Int) : ByteArray := ⟨(Lib.itoa n).toArray⟩

def txt (n d : Int) : ByteArray := if 1 < d then itoaS n ++ (⟨#[47]⟩ ++ itoaS d) else itoaS n

def txAns (n d : Int) : Value := if frOk n d = true then .tuple #[.string (txt n d), .int .i64 0] else .tuple #[.string ⟨#[]⟩, .int .i64 1]

theorem itoa_size (n : Int) (h1 : -1000000000 ≤ n) (h2 : n ≤ 1000000000) : (itoaS n).size ≤ 30 := by
  unfold itoaS Lib.itoa
  split
  · have := dec_size n.natAbs (by omega)
    simp [ByteArray.size]; omega
  · have := dec_size n.toNat (by omega)
    simp [ByteArray.size]; omega

theorem impItoa_any (n : Int) {B : Nat} {w0 : World} (w : World) (ht : Tab B w0) (hb : Below B w0 w) (h1 : -1000000000 ≤ n) (h2 : n ≤ 1000000000) :
    Calls Tryd.prog 18 #[.int .i64 n] w fun e w' => e = .returned (.string (itoaS n)) ∧ Below w.heap.size w w' := by
  refine (Tryd.strconv_Itoa n (by omega) (by omega) w (ht w hb)).mono ?_
  rintro e w' ⟨rfl, k, os, rfl⟩
  exact ⟨rfl, Lib.below_grow _ w (Nat.le_refl _) k os⟩

set_option maxHeartbeats 400000 in
theorem implText_bad (n d : Int) (w : World) (H0 : Hid (frOk n d = false)) (a1 : -9223372036854775808 ≤ n) (a2 : n ≤ 9223372036854775807) (a3 : -9223372036854775808 ≤ d) (a4 : d ≤ 9223372036854775807) :
    Calls Tryd.prog 9 #[.agg #[.int .i64 n, .int .i64 d]] w fun e w' => e = .returned (.tuple #[.string ⟨#[]⟩, .int .i64 1]) ∧ Below w.heap.size w w' := by
  go_enter Tryd.func9, Tryd.ntmps9
  go_wp2_with fail
  refine (implOK_any _ _ _ a1 a2 a3 a4).mono ?_
  rintro e w1 ⟨rfl, hb⟩
  rw [unhide H0]
  have HB := hide hb
  have x0 := keep1 hb (b := w.heap.size) (o := 0) (v := .int .i64 n) (by simp [go_sem])
  have x1 := keep1 hb (b := w.heap.size) (o := 1) (v := .int .i64 d) (by simp [go_sem])
  clear hb
  go_wp2
  go_ret2
  exact ⟨rfl, bel_call (bel_alloc (Below.refl _ _) _) (unhide HB)⟩

set_option maxHeartbeats 400000 in
theorem implText_one (n d : Int) (w : World) (H0 : Hid (frOk n d = true)) (hd : ¬ 1 < d) (a1 : -9223372036854775808 ≤ n) (a2 : n ≤ 9223372036854775807) (a3 : -9223372036854775808 ≤ d) (a4 : d ≤ 9223372036854775807) {B : Nat} {w0 : World} (HT : Hid (Tab B w0)) (H0w : Hid (Below B w0 w)) (hBw : B ≤ w.heap.size) :
    Calls Tryd.prog 9 #[.agg #[.int .i64 n, .int .i64 d]] w fun e w' => e = .returned (.tuple #[.string (itoaS n), .int .i64 0]) ∧ Below w.heap.size w w' := by
  obtain ⟨⟨c1, c2⟩, c3, c4⟩ := ok_bd (unhide H0)
  go_enter Tryd.func9, Tryd.ntmps9
  go_wp2_with fail
  refine (implOK_any _ _ _ a1 a2 a3 a4).mono ?_
  rintro e w1 ⟨rfl, hb⟩
  rw [unhide H0]
  have HB := hide hb
  have x0 := keep1 hb (b := w.heap.size) (o := 0) (v := .int .i64 n) (by simp [go_sem])
  have x1 := keep1 hb (b := w.heap.size) (o := 1) (v := .int .i64 d) (by simp [go_sem])
  clear hb
  go_wp2_with fail
  refine (impItoa_any n _ (unhide HT) (by exact ((unhide H0w).trans ((bel_call (bel_alloc (Below.refl _ _) _) (unhide HB)).mono hBw))) (by omega) (by omega)).mono ?_
  rintro e w2 ⟨rfl, hb⟩
  have HB2 := hide hb
  have y1 := keep1 hb x1
  clear hb x0 x1
  go_wp2
  go_ret2
  exact ⟨rfl, bel_call (bel_call (bel_alloc (Below.refl _ _) _) (unhide HB)) (unhide HB2)⟩

set_option maxHeartbeats 400000 in
theorem implText_two (n d : Int) (w : World) (H0 : Hid (frOk n d = true)) (hd : 1 < d) (a1 : -9223372036854775808 ≤ n) (a2 : n ≤ 9223372036854775807) (a3 : -9223372036854775808 ≤ d) (a4 : d ≤ 9223372036854775807) {B : Nat} {w0 : World} (HT : Hid (Tab B w0)) (H0w : Hid (Below B w0 w)) (hBw : B ≤ w.heap.size) :
    Calls Tryd.prog 9 #[.agg #[.int .i64 n, .int .i64 d]] w fun e w' => e = .returned (.tuple #[.string (itoaS n ++ (⟨#[47]⟩ ++ itoaS d)), .int .i64 0]) ∧ Below w.heap.size w w' := by
  obtain ⟨⟨c1, c2⟩, c3, c4⟩ := ok_bd (unhide H0)
  have sn := itoa_size n c1 c2
  have sd := itoa_size d (by omega) c4
  go_enter Tryd.func9, Tryd.ntmps9
  go_wp2_with fail
  refine (implOK_any _ _ _ a1 a2 a3 a4).mono ?_
  rintro e w1 ⟨rfl, hb⟩
  rw [unhide H0]
  have HB := hide hb
  have x0 := keep1 hb (b := w.heap.size) (o := 0) (v := .int .i64 n) (by simp [go_sem])
  have x1 := keep1 hb (b := w.heap.size) (o := 1) (v := .int .i64 d) (by simp [go_sem])
  clear hb
  go_wp2_with fail
  refine (impItoa_any n _ (unhide HT) (by exact ((unhide H0w).trans ((bel_call (bel_alloc (Below.refl _ _) _) (unhide HB)).mono hBw))) (by omega) (by omega)).mono ?_
  rintro e w2 ⟨rfl, hb⟩
  have HB2 := hide hb
  have y1 := keep1 hb x1
  clear hb x0 x1
  go_wp2_with fail
  refine (impItoa_any d _ (unhide HT) (by exact ((unhide H0w).trans ((bel_call (bel_call (bel_alloc (Below.refl _ _) _) (unhide HB)) (unhide HB2)).mono hBw))) (by omega) (by omega)).mono ?_
  rintro e w3 ⟨rfl, hb⟩
  have HB3 := hide hb
  clear hb y1
  go_wp2
  go_ret2
  exact ⟨rfl, bel_call (bel_call (bel_call (bel_alloc (Below.refl _ _) _) (unhide HB)) (unhide HB2)) (unhide HB3)⟩

theorem implText_any (n d : Int) (w : World) (a1 : -9223372036854775808 ≤ n) (a2 : n ≤ 9223372036854775807) (a3 : -9223372036854775808 ≤ d) (a4 : d ≤ 9223372036854775807) {B : Nat} {w0 : World} (HT : Hid (Tab B w0)) (H0w : Hid (Below B w0 w)) (hBw : B ≤ w.heap.size) :
    Calls Tryd.prog 9 #[.agg #[.int .i64 n, .int .i64 d]] w fun e w' => e = .returned (txAns n d) ∧ Below w.heap.size w w' := by
  unfold txAns txt
  by_cases h0 : frOk n d = true
  · rw [if_pos h0]
    by_cases hd : 1 < d
    · rw [if_pos hd]
      exact implText_two n d w (hide h0) hd a1 a2 a3 a4 HT H0w hBw
    · rw [if_neg hd]
      exact implText_one n d w (hide h0) hd a1 a2 a3 a4 HT H0w hBw
  · rw [if_neg h0]
    exact implText_bad n d w (hide (by simpa using h0)) a1 a2 a3 a4

end Go.Proofs.YtidafleegkofkaaDoor
