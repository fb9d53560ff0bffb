/-
  NameOK of the program answers as the model at every text.
-/
import Derived.Test.YtkkmikgeppkhiaaWords
import Derived.ChangeOld
import Derived.Below
import Derived.ShutString
namespace Go.Proofs.Ytkkmikgeppkhiaa
open Go.ChangeShapes Go.WideShapes Go.ChangeAt Go.RowKit
open Go.ChangeMaps (open_string shut_string)
set_option linter.unusedVariables false
set_option linter.unusedSimpArgs false

set_option maxHeartbeats 400000 in
theorem specName_any (s : ByteArray) (w : World) (hs : s.size ≤ maxLen) :
    Calls Try.prog 72 #[.string s] w fun e w' => e = .returned (.bool (nameB s)) ∧ w' = w := by
  have HW := hide (fun W => word_any s W hs)
  have hB : nameB s = decide (0 < s.size ∧ s.size ≤ 40 ∧ endOf s s.size 0 = s.size) := rfl
  rw [hB]
  clear hB
  generalize endOf s s.size 0 = E at *
  unfold maxLen at hs
  by_cases h0 : 0 < s.size
  · have p0 : decide ((0 : Int) < (s.size : Int)) = true := decide_eq_true (by omega)
    by_cases h1 : s.size ≤ 40
    · have p1 : decide ((s.size : Int) ≤ 40) = true := decide_eq_true (by omega)
      rw [show decide (0 < s.size ∧ s.size ≤ 40 ∧ E = s.size) = ((E : Int) == (s.size : Int)) from by rw [Bool.eq_iff_iff]; simp; omega]
      go_enter Try.func72, Try.ntmps72
      go_wp2_with fail
      refine (unhide HW _).mono ?_
      rintro e w1 ⟨rfl, rfl⟩
      go_wp2
      all_goals (go_ret; exact ⟨ret_bool (by first | rfl | simp_all), rfl⟩)
    · have p1 : decide ((s.size : Int) ≤ 40) = false := decide_eq_false (by omega)
      rw [show decide (0 < s.size ∧ s.size ≤ 40 ∧ E = s.size) = false from decide_eq_false (by omega)]
      go_enter Try.func72, Try.ntmps72
      go_wp2
      go_ret
      exact ⟨rfl, rfl⟩
  · have p0 : decide ((0 : Int) < (s.size : Int)) = false := decide_eq_false (by omega)
    rw [show decide (0 < s.size ∧ s.size ≤ 40 ∧ E = s.size) = false from decide_eq_false (by omega)]
    go_enter Try.func72, Try.ntmps72
    go_wp2
    go_ret
    exact ⟨rfl, rfl⟩

theorem width_pos (s : ByteArray) (pos : Nat) (h : pos < s.size) : 1 ≤ (Utf8.decode s pos).2 := by
  by_cases ha : (s[pos]'h).toNat < 128
  · rw [decode_ascii s pos h ha]
    exact Nat.le_refl _
  · exact (decode_high s pos h (by omega)).2

set_option maxRecDepth 100000 in
set_option maxHeartbeats 1000000 in
theorem implName_in (s : ByteArray) (w : World) (hs : s.size ≤ 40) (h0 : 0 < s.size) :
    Calls Try.prog 91 #[.string s] w fun e w' => e = .returned (.bool (endOf s s.size 0 == s.size)) ∧ Below w.heap.size w w' := by
  generalize hE : endOf s s.size 0 = E
  have HE : Hid (On s E 0) := by rw [← hE]; exact on_start s
  clear hE
  have p0 : ((s.size : Int) == 0) = false := by rw [beq_eq_false_iff_ne]; omega
  have p1 : decide ((40 : Int) < (s.size : Int)) = false := decide_eq_false (by omega)
  go_enter Try.func91, Try.ntmps91
  go_wp2
  go_loopw [] (fun w' => ∃ pos : Nat, w' = w.iter s pos ∧ pos ≤ s.size ∧ On s E pos) (fun w' => s.size - w'.iterPos w.heap.size)
  case atStart => exact ⟨0, rfl, by omega, unhide HE⟩
  case round =>
    obtain ⟨pos, rfl, hle, hon⟩ := hrel
    have HON := hide hon
    clear hon HE
    by_cases hp : pos < s.size
    · have hnx : ∀ ty, (Instr.next (.pointer (some ⟨w.heap.size, 0, none⟩)) true ty).run Try.prog (w.iter s pos) = _ := fun ty => run_next_any w s pos ty hp
      have hwd := width_pos s pos hp
      have hdl := decode_le s pos
      have HF := hide (fits_step s pos)
      have hsl := stepN_le s pos hp
      unfold SameD at HF
      generalize (Utf8.decode s pos).1 = r at *
      generalize (Utf8.decode s pos).2 = wd at *
      by_cases hr : runeB r = true
      · have hst : stepN s pos = wd := (unhide HF).1 (by simp [fitsB, hr])
        have HN : Hid (On s E (pos + wd)) := by have := on_step (unhide HON) hp (by omega); rw [hst] at this; exact this
        rw [hst] at hsl
        have HL : Hid (∀ W, Calls Try.prog 106 #[.int .i32 (r : Int)] W fun e w' => e = .returned (.bool true) ∧ w' = W) := by rw [← hr]; exact fun W => letter_any r W hdl
        clear hst HON HF hr
        go_wp2_with fail
        refine (unhide HL _).mono ?_
        rintro e w1 ⟨rfl, rfl⟩
        go_wp2
        go_roundw
        case rel => exact ⟨pos + wd, rfl, hsl, unhide HN⟩
        case measure => simp; omega
      have hr : runeB r = false := by simpa using hr
      have HL : Hid (∀ W, Calls Try.prog 106 #[.int .i32 (r : Int)] W fun e w' => e = .returned (.bool false) ∧ w' = W) := by rw [← hr]; exact fun W => letter_any r W hdl
      by_cases hz : pos = 0
      · have hst : stepN s pos = 0 := (unhide HF).2 (by simp [fitsB, hr, hz])
        have HEK : Hid ((E == s.size) = false) := by
          rw [on_stop (unhide HON) hst]
          exact hide (by rw [beq_eq_false_iff_ne]; omega)
        have q0 : ((pos : Int) == 0) = true := by simp [hz]
        clear hst HON HF hr hsl hz
        go_wp2_with fail
        refine (unhide HL _).mono ?_
        rintro e w1 ⟨rfl, rfl⟩
        go_wp2
        go_ret
        exact ⟨ret_bool (by rw [unhide HEK]), (Below.refl _ _).alloc (Nat.le_refl _) _⟩
      have q0 : ((pos : Int) == 0) = false := by rw [beq_eq_false_iff_ne]; omega
      by_cases hdg : isDigit r = true
      · have hst : stepN s pos = wd := (unhide HF).1 (by simp [fitsB, hdg]; omega)
        have HN : Hid (On s E (pos + wd)) := by have := on_step (unhide HON) hp (by omega); rw [hst] at this; exact this
        rw [hst] at hsl
        have HD : Hid (∀ W, Calls Try.prog 107 #[.int .i32 (r : Int)] W fun e w' => e = .returned (.bool true) ∧ w' = W) := by rw [← hdg]; exact fun W => digit_any r W hdl
        clear hst HON HF hr hdg
        go_wp2_with fail
        refine (unhide HL _).mono ?_
        rintro e w1 ⟨rfl, rfl⟩
        go_wp2_with fail
        refine (unhide HD _).mono ?_
        rintro e w1 ⟨rfl, rfl⟩
        go_wp2
        go_roundw
        case rel => exact ⟨pos + wd, rfl, hsl, unhide HN⟩
        case measure => simp; omega
      · have hdg : isDigit r = false := by simpa using hdg
        have hst : stepN s pos = 0 := (unhide HF).2 (by simp [fitsB, hr, hdg])
        have HEK : Hid ((E == s.size) = false) := by
          rw [on_stop (unhide HON) hst]
          exact hide (by rw [beq_eq_false_iff_ne]; omega)
        have HD : Hid (∀ W, Calls Try.prog 107 #[.int .i32 (r : Int)] W fun e w' => e = .returned (.bool false) ∧ w' = W) := by rw [← hdg]; exact fun W => digit_any r W hdl
        clear hst HON HF hr hdg hsl
        go_wp2_with fail
        refine (unhide HL _).mono ?_
        rintro e w1 ⟨rfl, rfl⟩
        go_wp2_with fail
        refine (unhide HD _).mono ?_
        rintro e w1 ⟨rfl, rfl⟩
        go_wp2
        go_ret
        exact ⟨ret_bool (by rw [unhide HEK]), (Below.refl _ _).alloc (Nat.le_refl _) _⟩
    · have hnx : ∀ ty, (Instr.next (.pointer (some ⟨w.heap.size, 0, none⟩)) true ty).run Try.prog (w.iter s pos) = _ := fun ty => run_next_end w s pos ty hp
      have HEK : Hid ((E == s.size) = true) := by
        rw [on_end (unhide HON) hp]
        exact hide (by rw [beq_iff_eq]; omega)
      clear HON
      go_wp2
      go_ret
      exact ⟨ret_bool (by rw [unhide HEK]), (Below.refl _ _).alloc (Nat.le_refl _) _⟩

set_option maxHeartbeats 400000 in
theorem implName_out (s : ByteArray) (w : World) (hs : s.size ≤ maxLen) (h : s.size = 0 ∨ 40 < s.size) :
    Calls Try.prog 91 #[.string s] w fun e w' => e = .returned (.bool false) ∧ Below w.heap.size w w' := by
  unfold maxLen at hs
  rcases h with h | h
  · have p0 : ((s.size : Int) == 0) = true := by simp [h]
    clear h
    go_enter Try.func91, Try.ntmps91
    go_wp2
    go_ret
    exact ⟨rfl, Below.refl _ _⟩
  · have p0 : ((s.size : Int) == 0) = false := by rw [beq_eq_false_iff_ne]; omega
    have p1 : decide ((40 : Int) < (s.size : Int)) = true := decide_eq_true (by omega)
    go_enter Try.func91, Try.ntmps91
    go_wp2
    go_ret
    exact ⟨rfl, Below.refl _ _⟩

theorem implName_any (s : ByteArray) (w : World) (hs : s.size ≤ maxLen) :
    Calls Try.prog 91 #[.string s] w fun e w' => e = .returned (.bool (nameB s)) ∧ Below w.heap.size w w' := by
  by_cases h : 0 < s.size ∧ s.size ≤ 40
  · rw [show nameB s = (endOf s s.size 0 == s.size) from by unfold nameB; rw [Bool.eq_iff_iff]; simp; omega]
    exact implName_in s w h.2 h.1
  · rw [show nameB s = false from decide_eq_false (by omega)]
    exact implName_out s w hs (by omega)
end Go.Proofs.Ytkkmikgeppkhiaa
