/- The model's question whether a feature is right. -/
import Derived.Test.YtkiplmabjeadgaaGreatLettersQ
import Derived.ChangeOld
import Derived.Below
import Derived.ShutString
import Derived.Test.YtkiplmabjeadgaaGreatFoMathQ
namespace Go.Proofs.YtkiplmabjeadgaaGreat
set_option maxRecDepth 100000
set_option maxHeartbeats 16000000
open Go.ChangeShapes Go.WideShapes Go.ChangeAt Go.RowKit
set_option linter.unusedVariables false
set_option linter.unusedSimpArgs false
theorem step_let (s : ByteArray) (k : Nat) (h : letN s k ≠ 0) : stepN s k = letN s k := by simp [stepN, h]
theorem step_dig (s : ByteArray) (k : Nat) (hk : k < s.size) (h : letN s k = 0) (h0 : 0 < k) (h1 : 48 ≤ (s[k]'hk).toNat) (h2 : (s[k]'hk).toNat ≤ 57) : stepN s k = 1 := by
 have e : isDigit (at' s k) = true := dt (by rw [get_eq s k hk]; exact ⟨h1, h2⟩);simp [stepN, h, h0, e]
theorem step_no (s : ByteArray) (k : Nat) (hk : k < s.size) (h : letN s k = 0) (h0 : k = 0 ∨ (s[k]'hk).toNat < 48 ∨ 57 < (s[k]'hk).toNat) : stepN s k = 0 := by
 rcases h0 with h0 | h0
 ·subst h0; simp [stepN, h]
 ·have e : isDigit (at' s k) = false := df (by rw [get_eq s k hk]; omega)
  simp [stepN, h, e]
def On (s : ByteArray) (E k : Nat) : Prop := ∃ f, s.size ≤ k + f ∧ endOf s f k = E
theorem on_start (s : ByteArray) : On s (endOf s s.size 0) 0 := ⟨s.size, by omega, rfl⟩
theorem on_step {s : ByteArray} {E k : Nat} (h : On s E k) (hk : k < s.size) (hs : stepN s k ≠ 0) : On s E (k + stepN s k) := by
 obtain ⟨f, hf, he⟩ := h;obtain ⟨e1, e2⟩ := endOf_step s f k hk hf hs;exact ⟨f - 1, e2, by rw [← e1]; exact he⟩
theorem on_stop {s : ByteArray} {E k : Nat} (h : On s E k) (hs : stepN s k = 0) : E = k := by
 obtain ⟨f, hf, he⟩ := h;rw [← he, endOf_stop s f k hs]
theorem on_end {s : ByteArray} {E k : Nat} (h : On s E k) (hs : ¬ k < s.size) : E = k := by
 obtain ⟨f, hf, he⟩ := h;rw [← he, endOf_ge s f k hs]
theorem word_any (s : ByteArray) (w : World) (hs : s.size ≤ maxLen) :
  Calls Tryz.prog 170 #[.string s, .int .i64 0] w fun e w' => e = .returned (.int .i64 (endOf s s.size 0 : Int)) ∧ w' = w := by
 have hs0 := hide hs;unfold maxLen at hs;generalize hE : endOf s s.size 0 = E;have HE : Hid (On s E 0) := by rw [← hE]; exact on_start s
 clear hE;go_enter Tryz.func170, Tryz.ntmps170;go_wp2
 go_loop [5] (fun i => ∃ k : Nat, i = .int .i64 (k : Int) ∧ k ≤ s.size ∧ On s E k) (fun i => s.size - (intOf i).toNat)
 case atStart => exact ⟨0, rfl, by omega, zu HE⟩
 case round =>
  obtain ⟨k, rfl, hk, hon⟩ := hrel;have HON := hide hon;clear hon HE
  by_cases hlt : k < s.size
  ·have hle := stepN_le s k hlt
   have hc : (s[k]'hlt).toNat < 256 := UInt8.toNat_lt _;have HL := hide (fun W => let_any s k W (zu hs0) hlt);have hll := letN_le s k hlt
   by_cases h0 : letN s k = 0
   ·by_cases hd : 0 < k ∧ 48 ≤ (s[k]'hlt).toNat ∧ (s[k]'hlt).toNat ≤ 57
    ·obtain ⟨d0, d1, d2⟩ := hd
     have hst := step_dig s k hlt h0 d0 d1 d2;have HN : Hid (On s E (k + 1)) := by have := on_step (zu HON) hlt (by omega); rw [hst] at this; exact this
     rw [h0] at HL;clear h0 hst hle hll HON;have p1 : decide ((0 : Int) < (k : Int)) = true := dt (by omega);have p2 : decide ((48 : Int) ≤ ((s[k]'hlt).toNat : Int)) = true := dt (by omega);have p3 : decide (((s[k]'hlt).toNat : Int) ≤ 57) = true := dt (by omega);go_wp2_with fail;refine (zu HL _).mono ?_;rintro e w1 ⟨rfl, rfl⟩;go_wp2
     go_round
     case rel => exact ⟨k + 1, by go_num, by omega, zu HN⟩
     case measure => simp [intOf]; omega
    ·have hst := step_no s k hlt h0 (by omega)
     have hEk := on_stop (zu HON) hst;have HEK := hide hEk;rw [h0] at HL;clear h0 hst hle hll hEk HON
     by_cases d0 : 0 < k
     ·have p1 : decide ((0 : Int) < (k : Int)) = true := dt (by omega)
      by_cases d1 : 48 ≤ (s[k]'hlt).toNat
      ·have p2 : decide ((48 : Int) ≤ ((s[k]'hlt).toNat : Int)) = true := dt (by omega)
       have p3 : decide (((s[k]'hlt).toNat : Int) ≤ 57) = false := df (by omega);go_wp2_with fail;refine (zu HL _).mono ?_;rintro e w1 ⟨rfl, rfl⟩;go_wp2;go_ret;exact ⟨ret_int (by rw [zu HEK]), rfl⟩
      ·have p2 : decide ((48 : Int) ≤ ((s[k]'hlt).toNat : Int)) = false := df (by omega)
       go_wp2_with fail;refine (zu HL _).mono ?_;rintro e w1 ⟨rfl, rfl⟩;go_wp2;go_ret;exact ⟨ret_int (by rw [zu HEK]), rfl⟩
     ·have p1 : decide ((0 : Int) < (k : Int)) = false := df (by omega)
      go_wp2_with fail;refine (zu HL _).mono ?_;rintro e w1 ⟨rfl, rfl⟩;go_wp2;go_ret;exact ⟨ret_int (by rw [zu HEK]), rfl⟩
   ·have hst := step_let s k h0
    have HN : Hid (On s E (k + letN s k)) := by have := on_step (zu HON) hlt (by omega); rw [hst] at this; exact this
    clear hst hle HON;generalize letN s k = L at *;have p0 : ((L : Int) == 0) = false := by rw [beq_eq_false_iff_ne]; omega
    go_wp2_with fail;refine (zu HL _).mono ?_;rintro e w1 ⟨rfl, rfl⟩;go_wp2
    go_round
    case rel => exact ⟨k + L, by go_num, by omega, zu HN⟩
    case measure => simp [intOf]; omega
  ·have HEK := hide (on_end (zu HON) hlt)
   go_wp2;go_ret;exact ⟨ret_int (by rw [zu HEK]), rfl⟩
open Go.ChangeMaps (open_string shut_string)
theorem specName_any (s : ByteArray) (w : World) (hs : s.size ≤ maxLen) :
  Calls Tryz.prog 142 #[.string s] w fun e w' => e = .returned (.bool (nameB s)) ∧ w' = w := by
 have HW := hide (fun W => word_any s W hs);have hB : nameB s = decide (0 < s.size ∧ s.size ≤ 40 ∧ endOf s s.size 0 = s.size) := rfl;rw [hB];clear hB;generalize endOf s s.size 0 = E at *;unfold maxLen at hs
 by_cases h0 : 0 < s.size
 ·have p0 : decide ((0 : Int) < (s.size : Int)) = true := dt (by omega)
  by_cases h1 : s.size ≤ 40
  ·have p1 : decide ((s.size : Int) ≤ 40) = true := dt (by omega)
   rw [show decide (0 < s.size ∧ s.size ≤ 40 ∧ E = s.size) = ((E : Int) == (s.size : Int)) from by rw [Bool.eq_iff_iff]; simp; omega];go_enter Tryz.func142, Tryz.ntmps142;go_wp2_with fail;refine (zu HW _).mono ?_;rintro e w1 ⟨rfl, rfl⟩;go_wp2
   all_goals (go_ret; exact ⟨ret_bool (by first | rfl | simp_all), rfl⟩)
  ·have p1 : decide ((s.size : Int) ≤ 40) = false := df (by omega)
   rw [show decide (0 < s.size ∧ s.size ≤ 40 ∧ E = s.size) = false from df (by omega)];go_enter Tryz.func142, Tryz.ntmps142;go_wp2;go_ret;exact ⟨rfl, rfl⟩
 ·have p0 : decide ((0 : Int) < (s.size : Int)) = false := df (by omega)
  rw [show decide (0 < s.size ∧ s.size ≤ 40 ∧ E = s.size) = false from df (by omega)];go_enter Tryz.func142, Tryz.ntmps142;go_wp2;go_ret;exact ⟨rfl, rfl⟩
theorem width_pos (s : ByteArray) (pos : Nat) (h : pos < s.size) : 1 ≤ (Utf8.decode s pos).2 := by
 by_cases ha : (s[pos]'h).toNat < 128
 ·rw [decode_ascii s pos h ha]
  exact Nat.le_refl _
 ·exact (decode_high s pos h (by omega)).2
theorem implName_in (s : ByteArray) (w : World) (hs : s.size ≤ 40) (h0 : 0 < s.size) :
  Calls Tryz.prog 171 #[.string s] w fun e w' => e = .returned (.bool (endOf s s.size 0 == s.size)) ∧ Below w.heap.size w w' := by
 generalize hE : endOf s s.size 0 = E;have HE : Hid (On s E 0) := by rw [← hE]; exact on_start s
 clear hE;have p0 : ((s.size : Int) == 0) = false := by rw [beq_eq_false_iff_ne]; omega
 have p1 : decide ((40 : Int) < (s.size : Int)) = false := df (by omega);go_enter Tryz.func171, Tryz.ntmps171;go_wp2
 go_loopw [] (fun w' => ∃ pos : Nat, w' = w.iter s pos ∧ pos ≤ s.size ∧ On s E pos) (fun w' => s.size - w'.iterPos w.heap.size)
 case atStart => exact ⟨0, rfl, by omega, zu HE⟩
 case round =>
  obtain ⟨pos, rfl, hle, hon⟩ := hrel;have HON := hide hon;clear hon HE
  by_cases hp : pos < s.size
  ·have hnx : ∀ ty, (Instr.next (.pointer (some ⟨w.heap.size, 0, none⟩)) true ty).run Tryz.prog (w.iter s pos) = _ := fun ty => run_next_any w s pos ty hp
   have hwd := width_pos s pos hp;have hdl := decode_le s pos;have HF := hide (fits_step s pos);have hsl := stepN_le s pos hp;unfold SameD at HF;generalize (Utf8.decode s pos).1 = r at *;generalize (Utf8.decode s pos).2 = wd at *
   by_cases hr : runeB r = true
   ·have hst : stepN s pos = wd := (zu HF).1 (by simp [fitsB, hr])
    have HN : Hid (On s E (pos + wd)) := by have := on_step (zu HON) hp (by omega); rw [hst] at this; exact this
    rw [hst] at hsl;have HL : Hid (∀ W, Calls Tryz.prog 209 #[.int .i32 (r : Int)] W fun e w' => e = .returned (.bool true) ∧ w' = W) := by rw [← hr]; exact fun W => letter_any r W hdl
    clear hst HON HF hr;go_wp2_with fail;refine (zu HL _).mono ?_;rintro e w1 ⟨rfl, rfl⟩;go_wp2;go_roundw
    case rel => exact ⟨pos + wd, rfl, hsl, zu HN⟩
    case measure => simp; omega
   have hr : runeB r = false := by simpa using hr
   have HL : Hid (∀ W, Calls Tryz.prog 209 #[.int .i32 (r : Int)] W fun e w' => e = .returned (.bool false) ∧ w' = W) := by rw [← hr]; exact fun W => letter_any r W hdl
   by_cases hz : pos = 0
   ·have hst : stepN s pos = 0 := (zu HF).2 (by simp [fitsB, hr, hz])
    have HEK : Hid ((E == s.size) = false) := by
     rw [on_stop (zu HON) hst];exact hide (by rw [beq_eq_false_iff_ne]; omega)
    have q0 : ((pos : Int) == 0) = true := by simp [hz]
    clear hst HON HF hr hsl hz;go_wp2_with fail;refine (zu HL _).mono ?_;rintro e w1 ⟨rfl, rfl⟩;go_wp2;go_ret;exact ⟨ret_bool (by rw [zu HEK]), (bfl _ _).alloc (Nat.le_refl _) _⟩
   have q0 : ((pos : Int) == 0) = false := by rw [beq_eq_false_iff_ne]; omega
   by_cases hdg : isDigit r = true
   ·have hst : stepN s pos = wd := (zu HF).1 (by simp [fitsB, hdg]; omega)
    have HN : Hid (On s E (pos + wd)) := by have := on_step (zu HON) hp (by omega); rw [hst] at this; exact this
    rw [hst] at hsl;have HD : Hid (∀ W, Calls Tryz.prog 210 #[.int .i32 (r : Int)] W fun e w' => e = .returned (.bool true) ∧ w' = W) := by rw [← hdg]; exact fun W => digit_any r W hdl
    clear hst HON HF hr hdg;go_wp2_with fail;refine (zu HL _).mono ?_;rintro e w1 ⟨rfl, rfl⟩;go_wp2_with fail;refine (zu HD _).mono ?_;rintro e w1 ⟨rfl, rfl⟩;go_wp2;go_roundw
    case rel => exact ⟨pos + wd, rfl, hsl, zu HN⟩
    case measure => simp; omega
   ·have hdg : isDigit r = false := by simpa using hdg
    have hst : stepN s pos = 0 := (zu HF).2 (by simp [fitsB, hr, hdg])
    have HEK : Hid ((E == s.size) = false) := by
     rw [on_stop (zu HON) hst];exact hide (by rw [beq_eq_false_iff_ne]; omega)
    have HD : Hid (∀ W, Calls Tryz.prog 210 #[.int .i32 (r : Int)] W fun e w' => e = .returned (.bool false) ∧ w' = W) := by rw [← hdg]; exact fun W => digit_any r W hdl
    clear hst HON HF hr hdg hsl;go_wp2_with fail;refine (zu HL _).mono ?_;rintro e w1 ⟨rfl, rfl⟩;go_wp2_with fail;refine (zu HD _).mono ?_;rintro e w1 ⟨rfl, rfl⟩;go_wp2;go_ret;exact ⟨ret_bool (by rw [zu HEK]), (bfl _ _).alloc (Nat.le_refl _) _⟩
  ·have hnx : ∀ ty, (Instr.next (.pointer (some ⟨w.heap.size, 0, none⟩)) true ty).run Tryz.prog (w.iter s pos) = _ := fun ty => run_next_end w s pos ty hp
   have HEK : Hid ((E == s.size) = true) := by
    rw [on_end (zu HON) hp];exact hide (by rw [beq_iff_eq]; omega)
   clear HON;go_wp2;go_ret;exact ⟨ret_bool (by rw [zu HEK]), (bfl _ _).alloc (Nat.le_refl _) _⟩
theorem implName_out (s : ByteArray) (w : World) (hs : s.size ≤ maxLen) (h : s.size = 0 ∨ 40 < s.size) :
  Calls Tryz.prog 171 #[.string s] w fun e w' => e = .returned (.bool false) ∧ Below w.heap.size w w' := by
 unfold maxLen at hs
 rcases h with h | h
 ·have p0 : ((s.size : Int) == 0) = true := by simp [h]
  clear h;go_enter Tryz.func171, Tryz.ntmps171;go_wp2;go_ret;exact ⟨rfl, bfl _ _⟩
 ·have p0 : ((s.size : Int) == 0) = false := by rw [beq_eq_false_iff_ne]; omega
  have p1 : decide ((40 : Int) < (s.size : Int)) = true := dt (by omega);go_enter Tryz.func171, Tryz.ntmps171;go_wp2;go_ret;exact ⟨rfl, bfl _ _⟩
theorem implName_any (s : ByteArray) (w : World) (hs : s.size ≤ maxLen) :
  Calls Tryz.prog 171 #[.string s] w fun e w' => e = .returned (.bool (nameB s)) ∧ Below w.heap.size w w' := by
 by_cases h : 0 < s.size ∧ s.size ≤ 40
 ·rw [show nameB s = (endOf s s.size 0 == s.size) from by unfold nameB; rw [Bool.eq_iff_iff]; simp; omega]
  exact implName_in s w h.2 h.1
 ·rw [show nameB s = false from df (by omega)]
  exact implName_out s w hs (by omega)
theorem inM_any (x : Int) (w : World) : Calls Tryz.prog 144 #[.int .i64 x] w fun e w' => e = .returned (.bool (inG x)) ∧ w' = w := by
 unfold inG;go_enter Tryz.func144, Tryz.ntmps144;go_wp2
 all_goals
  go_ret;refine ⟨ret_bool ?_, rfl⟩
  first | (simp [*]; done) | (simp; omega)
theorem looseM_any (x0 y0 z0 x1 y1 z1 : Int) (w : World) : Calls Tryz.prog 143 #[.agg #[.int .i64 x0, .int .i64 y0, .int .i64 z0, .int .i64 x1, .int .i64 y1, .int .i64 z1]] w fun e w' => e = .returned (.bool (loose x0 y0 z0 x1 y1 z1)) ∧ Below w.heap.size w w' := by
 have G0 := hide (fun W => inM_any x0 W);have G1 := hide (fun W => inM_any y0 W);have G2 := hide (fun W => inM_any z0 W);have G3 := hide (fun W => inM_any x1 W);have G4 := hide (fun W => inM_any y1 W);have G5 := hide (fun W => inM_any z1 W);unfold loose;generalize inG x0 = a0 at *;generalize inG y0 = a1 at *;generalize inG z0 = a2 at *;generalize inG x1 = a3 at *;generalize inG y1 = a4 at *;generalize inG z1 = a5 at *;go_enter Tryz.func143, Tryz.ntmps143;go_wp2_with fail;refine (zu G0 _).mono ?_;rintro e W1 ⟨rfl, rfl⟩
 cases a0
 ·go_wp2_with fail
  go_ret;exact ⟨ret_bool (by simp), ba (bfl _ _) _⟩
 go_wp2_with fail;refine (zu G1 _).mono ?_;rintro e W1 ⟨rfl, rfl⟩
 cases a1
 ·go_wp2_with fail
  go_ret;exact ⟨ret_bool (by simp), ba (bfl _ _) _⟩
 go_wp2_with fail;refine (zu G2 _).mono ?_;rintro e W1 ⟨rfl, rfl⟩
 cases a2
 ·go_wp2_with fail
  go_ret;exact ⟨ret_bool (by simp), ba (bfl _ _) _⟩
 go_wp2_with fail;refine (zu G3 _).mono ?_;rintro e W1 ⟨rfl, rfl⟩
 cases a3
 ·go_wp2_with fail
  go_ret;exact ⟨ret_bool (by simp), ba (bfl _ _) _⟩
 go_wp2_with fail;refine (zu G4 _).mono ?_;rintro e W1 ⟨rfl, rfl⟩
 cases a4
 ·go_wp2_with fail
  go_ret;exact ⟨ret_bool (by simp), ba (bfl _ _) _⟩
 go_wp2_with fail;refine (zu G5 _).mono ?_;rintro e W1 ⟨rfl, rfl⟩
 cases a5
 ·go_wp2_with fail
  go_ret;exact ⟨ret_bool (by simp), ba (bfl _ _) _⟩
 go_wp2_with fail
 all_goals
  go_ret;refine ⟨ret_bool ?_, ba (bfl _ _) _⟩
  first | (simp [*]; done) | (simp; omega)
theorem vb15 {w : World} {g t : Nat} {f : Ft} (h : vb w g t (ftc f)) : w.cell? ⟨g, 0, none⟩ = some (.string f.nm) ∧ w.cell? ⟨g, 1, none⟩ = some (.string f.on) ∧ w.cell? ⟨g, 2, none⟩ = some (.string f.ov) ∧ w.cell? ⟨g, 3, none⟩ = some (.int .i64 f.kd) ∧ w.cell? ⟨g, 4, none⟩ = some (.int .i64 f.sd) ∧ w.cell? ⟨g, 5, none⟩ = some (.int .i64 f.x0) ∧ w.cell? ⟨g, 6, none⟩ = some (.int .i64 f.y0) ∧ w.cell? ⟨g, 7, none⟩ = some (.int .i64 f.z0) ∧ w.cell? ⟨g, 8, none⟩ = some (.int .i64 f.x1) ∧ w.cell? ⟨g, 9, none⟩ = some (.int .i64 f.y1) ∧ w.cell? ⟨g, 10, none⟩ = some (.int .i64 f.z1) ∧ w.cell? ⟨g, 11, none⟩ = some (.int .i64 f.ct) ∧ w.cell? ⟨g, 12, none⟩ = some (.int .i64 f.dx) ∧ w.cell? ⟨g, 13, none⟩ = some (.int .i64 f.dy) ∧ w.cell? ⟨g, 14, none⟩ = some (.int .i64 f.dz) :=
  ⟨h.cell rfl, h.cell rfl, h.cell rfl, h.cell rfl, h.cell rfl, h.cell rfl, h.cell rfl, h.cell rfl, h.cell rfl, h.cell rfl, h.cell rfl, h.cell rfl, h.cell rfl, h.cell rfl, h.cell rfl⟩
end Go.Proofs.YtkiplmabjeadgaaGreat
