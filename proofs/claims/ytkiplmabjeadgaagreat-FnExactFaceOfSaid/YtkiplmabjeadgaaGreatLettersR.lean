/- How many bytes a letter at a place has, by the model. -/
import Derived.Test.YtkiplmabjeadgaaGreatRunesR
namespace Go.Proofs.YtkiplmabjeadgaaGreat
set_option maxRecDepth 100000
set_option maxHeartbeats 16000000
open Go.ChangeShapes Go.WideShapes Go.ChangeAt Go.RowKit
set_option linter.unusedVariables false
set_option linter.unusedSimpArgs false
theorem letN_one (s : ByteArray) (i : Nat) (hi : i < s.size) (h : (97 ≤ (s[i]'hi).toNat ∧ (s[i]'hi).toNat ≤ 122) ∨ (65 ≤ (s[i]'hi).toNat ∧ (s[i]'hi).toNat ≤ 90) ∨ (s[i]'hi).toNat = 95) : letN s i = 1:=by
 have e : isAscii (at' s i) = true:=dt (by rw [get_eq s i hi];exact h);simp [letN,e]
theorem letN_zero (s : ByteArray) (i : Nat) (hi : i < s.size) (h : ¬ ((97 ≤ (s[i]'hi).toNat ∧ (s[i]'hi).toNat ≤ 122) ∨ (65 ≤ (s[i]'hi).toNat ∧ (s[i]'hi).toNat ≤ 90) ∨ (s[i]'hi).toNat = 95))
  (h2 : (s[i]'hi).toNat < 194 ∨ 223 < (s[i]'hi).toNat ∨ ¬ i + 1 < s.size) : letN s i = 0:=by
 have e : isAscii (at' s i) = false:=df (by rw [get_eq s i hi];exact h);have e2 : ¬ (194 ≤ at' s i ∧ at' s i ≤ 223 ∧ i + 1 < s.size ∧ 128 ≤ at' s (i + 1) ∧ at' s (i + 1) ≤ 191):=by rw [get_eq s i hi];omega
 simp [letN,e,e2]
theorem letN_tail (s : ByteArray) (i : Nat) (hi : i < s.size) (hj : i + 1 < s.size) (h1 : 194 ≤ (s[i]'hi).toNat) (h2 : (s[i]'hi).toNat ≤ 223)
  (h3 : (s[i + 1]'hj).toNat < 128 ∨ 191 < (s[i + 1]'hj).toNat) : letN s i = 0:=by
 have e : isAscii (at' s i) = false:=df (by rw [get_eq s i hi];omega);have e2 : ¬ (194 ≤ at' s i ∧ at' s i ≤ 223 ∧ i + 1 < s.size ∧ 128 ≤ at' s (i + 1) ∧ at' s (i + 1) ≤ 191):=by rw [get_eq s i hi,get_eq s (i + 1) hj];omega
 simp [letN,e,e2]
theorem letN_far (s : ByteArray) (i : Nat) (hi : i < s.size) (hj : i + 1 < s.size) (h1 : 194 ≤ (s[i]'hi).toNat) (h2 : (s[i]'hi).toNat ≤ 223)
  (h3 : 128 ≤ (s[i + 1]'hj).toNat) (h4 : (s[i + 1]'hj).toNat ≤ 191) (b : Bool) (hb : isFar (((s[i]'hi).toNat - 192) * 64 + ((s[i + 1]'hj).toNat - 128)) = b) : letN s i = if b = true then 2 else 0:=by
 have e : isAscii (at' s i) = false:=df (by rw [get_eq s i hi];omega);have e2 : 194 ≤ at' s i ∧ at' s i ≤ 223 ∧ i + 1 < s.size ∧ 128 ≤ at' s (i + 1) ∧ at' s (i + 1) ≤ 191:=by rw [get_eq s i hi,get_eq s (i + 1) hj];omega
 rw [← hb,← get_eq s i hi,← get_eq s (i + 1) hj];simp only [letN,e,if_pos e2];simp
theorem let_one0 (s : ByteArray) (i : Nat) (w : World) (hs : s.size ≤ maxLen) (hi : i < s.size) (h1 : 97 ≤ (s[i]'hi).toNat) (h2 : (s[i]'hi).toNat ≤ 122) :
  Calls Tryz.prog 208 #[.string s,.int .i64 (i : Int)] w fun e w' => e = .returned (.int .i64 1) ∧ w' = w:=by
 unfold maxLen at hs;have hc : (s[i]'hi).toNat < 256:=UInt8.toNat_lt _;have p1 : decide (97 ≤ ((s[i]'hi).toNat : Int)) = true:=dt (by omega);have p2 : decide (((s[i]'hi).toNat : Int) ≤ 122) = true:=dt (by omega);have p3 : decide (65 ≤ ((s[i]'hi).toNat : Int)) = true:=dt (by omega);have p4 : decide (((s[i]'hi).toNat : Int) ≤ 90) = false:=df (by omega);have p6 : decide (((s[i]'hi).toNat : Int) < 194) = true:=dt (by omega);have p7 : decide (223 < ((s[i]'hi).toNat : Int)) = false:=df (by omega);have p5 : (((s[i]'hi).toNat : Int) == 95) = false:=by rw [beq_eq_false_iff_ne];omega
 go_enter Tryz.func208,Tryz.ntmps208;go_wp2;go_ret;exact ⟨rfl,rfl⟩
theorem let_one1 (s : ByteArray) (i : Nat) (w : World) (hs : s.size ≤ maxLen) (hi : i < s.size) (h1 : 65 ≤ (s[i]'hi).toNat) (h2 : (s[i]'hi).toNat ≤ 90) :
  Calls Tryz.prog 208 #[.string s,.int .i64 (i : Int)] w fun e w' => e = .returned (.int .i64 1) ∧ w' = w:=by
 unfold maxLen at hs;have hc : (s[i]'hi).toNat < 256:=UInt8.toNat_lt _;have p1 : decide (97 ≤ ((s[i]'hi).toNat : Int)) = false:=df (by omega);have p2 : decide (((s[i]'hi).toNat : Int) ≤ 122) = true:=dt (by omega);have p3 : decide (65 ≤ ((s[i]'hi).toNat : Int)) = true:=dt (by omega);have p4 : decide (((s[i]'hi).toNat : Int) ≤ 90) = true:=dt (by omega);have p6 : decide (((s[i]'hi).toNat : Int) < 194) = true:=dt (by omega);have p7 : decide (223 < ((s[i]'hi).toNat : Int)) = false:=df (by omega);have p5 : (((s[i]'hi).toNat : Int) == 95) = false:=by rw [beq_eq_false_iff_ne];omega
 go_enter Tryz.func208,Tryz.ntmps208;go_wp2;go_ret;exact ⟨rfl,rfl⟩
theorem let_one2 (s : ByteArray) (i : Nat) (w : World) (hs : s.size ≤ maxLen) (hi : i < s.size) (h1 : 95 ≤ (s[i]'hi).toNat) (h2 : (s[i]'hi).toNat ≤ 95) :
  Calls Tryz.prog 208 #[.string s,.int .i64 (i : Int)] w fun e w' => e = .returned (.int .i64 1) ∧ w' = w:=by
 unfold maxLen at hs;have hc : (s[i]'hi).toNat < 256:=UInt8.toNat_lt _;have p1 : decide (97 ≤ ((s[i]'hi).toNat : Int)) = false:=df (by omega);have p2 : decide (((s[i]'hi).toNat : Int) ≤ 122) = true:=dt (by omega);have p3 : decide (65 ≤ ((s[i]'hi).toNat : Int)) = true:=dt (by omega);have p4 : decide (((s[i]'hi).toNat : Int) ≤ 90) = false:=df (by omega);have p6 : decide (((s[i]'hi).toNat : Int) < 194) = true:=dt (by omega);have p7 : decide (223 < ((s[i]'hi).toNat : Int)) = false:=df (by omega);have p5 : (((s[i]'hi).toNat : Int) == 95) = true:=by simp;omega
 go_enter Tryz.func208,Tryz.ntmps208;go_wp2;go_ret;exact ⟨rfl,rfl⟩
theorem let_zero0 (s : ByteArray) (i : Nat) (w : World) (hs : s.size ≤ maxLen) (hi : i < s.size) (h1 : 0 ≤ (s[i]'hi).toNat) (h2 : (s[i]'hi).toNat ≤ 64) :
  Calls Tryz.prog 208 #[.string s,.int .i64 (i : Int)] w fun e w' => e = .returned (.int .i64 0) ∧ w' = w:=by
 unfold maxLen at hs;have hc : (s[i]'hi).toNat < 256:=UInt8.toNat_lt _;have p1 : decide (97 ≤ ((s[i]'hi).toNat : Int)) = false:=df (by omega);have p2 : decide (((s[i]'hi).toNat : Int) ≤ 122) = true:=dt (by omega);have p3 : decide (65 ≤ ((s[i]'hi).toNat : Int)) = false:=df (by omega);have p4 : decide (((s[i]'hi).toNat : Int) ≤ 90) = true:=dt (by omega);have p6 : decide (((s[i]'hi).toNat : Int) < 194) = true:=dt (by omega);have p7 : decide (223 < ((s[i]'hi).toNat : Int)) = false:=df (by omega);have p5 : (((s[i]'hi).toNat : Int) == 95) = false:=by rw [beq_eq_false_iff_ne];omega
 go_enter Tryz.func208,Tryz.ntmps208;go_wp2;go_ret;exact ⟨rfl,rfl⟩
theorem let_zero1 (s : ByteArray) (i : Nat) (w : World) (hs : s.size ≤ maxLen) (hi : i < s.size) (h1 : 91 ≤ (s[i]'hi).toNat) (h2 : (s[i]'hi).toNat ≤ 94) :
  Calls Tryz.prog 208 #[.string s,.int .i64 (i : Int)] w fun e w' => e = .returned (.int .i64 0) ∧ w' = w:=by
 unfold maxLen at hs;have hc : (s[i]'hi).toNat < 256:=UInt8.toNat_lt _;have p1 : decide (97 ≤ ((s[i]'hi).toNat : Int)) = false:=df (by omega);have p2 : decide (((s[i]'hi).toNat : Int) ≤ 122) = true:=dt (by omega);have p3 : decide (65 ≤ ((s[i]'hi).toNat : Int)) = true:=dt (by omega);have p4 : decide (((s[i]'hi).toNat : Int) ≤ 90) = false:=df (by omega);have p6 : decide (((s[i]'hi).toNat : Int) < 194) = true:=dt (by omega);have p7 : decide (223 < ((s[i]'hi).toNat : Int)) = false:=df (by omega);have p5 : (((s[i]'hi).toNat : Int) == 95) = false:=by rw [beq_eq_false_iff_ne];omega
 go_enter Tryz.func208,Tryz.ntmps208;go_wp2;go_ret;exact ⟨rfl,rfl⟩
theorem let_zero2 (s : ByteArray) (i : Nat) (w : World) (hs : s.size ≤ maxLen) (hi : i < s.size) (h1 : 96 ≤ (s[i]'hi).toNat) (h2 : (s[i]'hi).toNat ≤ 96) :
  Calls Tryz.prog 208 #[.string s,.int .i64 (i : Int)] w fun e w' => e = .returned (.int .i64 0) ∧ w' = w:=by
 unfold maxLen at hs;have hc : (s[i]'hi).toNat < 256:=UInt8.toNat_lt _;have p1 : decide (97 ≤ ((s[i]'hi).toNat : Int)) = false:=df (by omega);have p2 : decide (((s[i]'hi).toNat : Int) ≤ 122) = true:=dt (by omega);have p3 : decide (65 ≤ ((s[i]'hi).toNat : Int)) = true:=dt (by omega);have p4 : decide (((s[i]'hi).toNat : Int) ≤ 90) = false:=df (by omega);have p6 : decide (((s[i]'hi).toNat : Int) < 194) = true:=dt (by omega);have p7 : decide (223 < ((s[i]'hi).toNat : Int)) = false:=df (by omega);have p5 : (((s[i]'hi).toNat : Int) == 95) = false:=by rw [beq_eq_false_iff_ne];omega
 go_enter Tryz.func208,Tryz.ntmps208;go_wp2;go_ret;exact ⟨rfl,rfl⟩
theorem let_zero3 (s : ByteArray) (i : Nat) (w : World) (hs : s.size ≤ maxLen) (hi : i < s.size) (h1 : 123 ≤ (s[i]'hi).toNat) (h2 : (s[i]'hi).toNat ≤ 193) :
  Calls Tryz.prog 208 #[.string s,.int .i64 (i : Int)] w fun e w' => e = .returned (.int .i64 0) ∧ w' = w:=by
 unfold maxLen at hs;have hc : (s[i]'hi).toNat < 256:=UInt8.toNat_lt _;have p1 : decide (97 ≤ ((s[i]'hi).toNat : Int)) = true:=dt (by omega);have p2 : decide (((s[i]'hi).toNat : Int) ≤ 122) = false:=df (by omega);have p3 : decide (65 ≤ ((s[i]'hi).toNat : Int)) = true:=dt (by omega);have p4 : decide (((s[i]'hi).toNat : Int) ≤ 90) = false:=df (by omega);have p6 : decide (((s[i]'hi).toNat : Int) < 194) = true:=dt (by omega);have p7 : decide (223 < ((s[i]'hi).toNat : Int)) = false:=df (by omega);have p5 : (((s[i]'hi).toNat : Int) == 95) = false:=by rw [beq_eq_false_iff_ne];omega
 go_enter Tryz.func208,Tryz.ntmps208;go_wp2;go_ret;exact ⟨rfl,rfl⟩
theorem let_zero4 (s : ByteArray) (i : Nat) (w : World) (hs : s.size ≤ maxLen) (hi : i < s.size) (h1 : 224 ≤ (s[i]'hi).toNat) (h2 : (s[i]'hi).toNat ≤ 255) :
  Calls Tryz.prog 208 #[.string s,.int .i64 (i : Int)] w fun e w' => e = .returned (.int .i64 0) ∧ w' = w:=by
 unfold maxLen at hs;have hc : (s[i]'hi).toNat < 256:=UInt8.toNat_lt _;have p1 : decide (97 ≤ ((s[i]'hi).toNat : Int)) = true:=dt (by omega);have p2 : decide (((s[i]'hi).toNat : Int) ≤ 122) = false:=df (by omega);have p3 : decide (65 ≤ ((s[i]'hi).toNat : Int)) = true:=dt (by omega);have p4 : decide (((s[i]'hi).toNat : Int) ≤ 90) = false:=df (by omega);have p6 : decide (((s[i]'hi).toNat : Int) < 194) = false:=df (by omega);have p7 : decide (223 < ((s[i]'hi).toNat : Int)) = true:=dt (by omega);have p5 : (((s[i]'hi).toNat : Int) == 95) = false:=by rw [beq_eq_false_iff_ne];omega
 go_enter Tryz.func208,Tryz.ntmps208;go_wp2;go_ret;exact ⟨rfl,rfl⟩
theorem let_end (s : ByteArray) (i : Nat) (w : World) (hs : s.size ≤ maxLen) (hi : i < s.size) (h1 : 194 ≤ (s[i]'hi).toNat) (h2 : (s[i]'hi).toNat ≤ 223) (h3 : s.size ≤ i + 1) :
  Calls Tryz.prog 208 #[.string s,.int .i64 (i : Int)] w fun e w' => e = .returned (.int .i64 0) ∧ w' = w:=by
 unfold maxLen at hs;have hc : (s[i]'hi).toNat < 256:=UInt8.toNat_lt _;have p1 : decide (97 ≤ ((s[i]'hi).toNat : Int)) = true:=dt (by omega);have p2 : decide (((s[i]'hi).toNat : Int) ≤ 122) = false:=df (by omega);have p3 : decide (65 ≤ ((s[i]'hi).toNat : Int)) = true:=dt (by omega);have p4 : decide (((s[i]'hi).toNat : Int) ≤ 90) = false:=df (by omega);have p6 : decide (((s[i]'hi).toNat : Int) < 194) = false:=df (by omega);have p7 : decide (223 < ((s[i]'hi).toNat : Int)) = false:=df (by omega);have p5 : (((s[i]'hi).toNat : Int) == 95) = false:=by rw [beq_eq_false_iff_ne];omega
 have q0 : decide ((s.size : Int) ≤ (i : Int) + 1) = true:=dt (by omega);go_enter Tryz.func208,Tryz.ntmps208;go_wp2;go_ret;exact ⟨rfl,rfl⟩
theorem let_low (s : ByteArray) (i : Nat) (w : World) (hs : s.size ≤ maxLen) (hi : i < s.size) (hj : i + 1 < s.size) (h1 : 194 ≤ (s[i]'hi).toNat) (h2 : (s[i]'hi).toNat ≤ 223) (h3 : (s[i + 1]'hj).toNat < 128) :
  Calls Tryz.prog 208 #[.string s,.int .i64 (i : Int)] w fun e w' => e = .returned (.int .i64 0) ∧ w' = w:=by
 unfold maxLen at hs;have hc : (s[i]'hi).toNat < 256:=UInt8.toNat_lt _;have hc1 : (s[i + 1]'hj).toNat < 256:=UInt8.toNat_lt _;have p1 : decide (97 ≤ ((s[i]'hi).toNat : Int)) = true:=dt (by omega);have p2 : decide (((s[i]'hi).toNat : Int) ≤ 122) = false:=df (by omega);have p3 : decide (65 ≤ ((s[i]'hi).toNat : Int)) = true:=dt (by omega);have p4 : decide (((s[i]'hi).toNat : Int) ≤ 90) = false:=df (by omega);have p6 : decide (((s[i]'hi).toNat : Int) < 194) = false:=df (by omega);have p7 : decide (223 < ((s[i]'hi).toNat : Int)) = false:=df (by omega)
 have p5 : (((s[i]'hi).toNat : Int) == 95) = false:=by rw [beq_eq_false_iff_ne];omega
 have q1 : decide (((s[i + 1]'hj).toNat : Int) < 128) = true:=dt (by omega);have q2 : decide (191 < ((s[i + 1]'hj).toNat : Int)) = false:=df (by omega);have q0 : decide ((s.size : Int) ≤ (i : Int) + 1) = false:=df (by omega);go_enter Tryz.func208,Tryz.ntmps208;go_wp2;go_ret;exact ⟨rfl,rfl⟩
theorem let_high (s : ByteArray) (i : Nat) (w : World) (hs : s.size ≤ maxLen) (hi : i < s.size) (hj : i + 1 < s.size) (h1 : 194 ≤ (s[i]'hi).toNat) (h2 : (s[i]'hi).toNat ≤ 223) (h3 : 191 < (s[i + 1]'hj).toNat) :
  Calls Tryz.prog 208 #[.string s,.int .i64 (i : Int)] w fun e w' => e = .returned (.int .i64 0) ∧ w' = w:=by
 unfold maxLen at hs;have hc : (s[i]'hi).toNat < 256:=UInt8.toNat_lt _;have hc1 : (s[i + 1]'hj).toNat < 256:=UInt8.toNat_lt _;have p1 : decide (97 ≤ ((s[i]'hi).toNat : Int)) = true:=dt (by omega);have p2 : decide (((s[i]'hi).toNat : Int) ≤ 122) = false:=df (by omega);have p3 : decide (65 ≤ ((s[i]'hi).toNat : Int)) = true:=dt (by omega);have p4 : decide (((s[i]'hi).toNat : Int) ≤ 90) = false:=df (by omega);have p6 : decide (((s[i]'hi).toNat : Int) < 194) = false:=df (by omega);have p7 : decide (223 < ((s[i]'hi).toNat : Int)) = false:=df (by omega)
 have p5 : (((s[i]'hi).toNat : Int) == 95) = false:=by rw [beq_eq_false_iff_ne];omega
 have q1 : decide (((s[i + 1]'hj).toNat : Int) < 128) = false:=df (by omega);have q2 : decide (191 < ((s[i + 1]'hj).toNat : Int)) = true:=dt (by omega);have q0 : decide ((s.size : Int) ≤ (i : Int) + 1) = false:=df (by omega);go_enter Tryz.func208,Tryz.ntmps208;go_wp2;go_ret;exact ⟨rfl,rfl⟩
theorem let_far0 (s : ByteArray) (i : Nat) (w : World) (hs : s.size ≤ maxLen) (hi : i < s.size) (hj : i + 1 < s.size) (h1 : 194 ≤ (s[i]'hi).toNat) (h2 : (s[i]'hi).toNat ≤ 223) (h3 : 128 ≤ (s[i + 1]'hj).toNat) (h4 : (s[i + 1]'hj).toNat ≤ 191) (h5 : 128 + 12416 ≤ (s[i]'hi).toNat * 64 + (s[i + 1]'hj).toNat) (h6 : (s[i]'hi).toNat * 64 + (s[i + 1]'hj).toNat ≤ 191 + 12416) :
  Calls Tryz.prog 208 #[.string s,.int .i64 (i : Int)] w fun e w' => e = .returned (.int .i64 0) ∧ w' = w:=by
 unfold maxLen at hs;have hc : (s[i]'hi).toNat < 256:=UInt8.toNat_lt _;have hc1 : (s[i + 1]'hj).toNat < 256:=UInt8.toNat_lt _;have p1 : decide (97 ≤ ((s[i]'hi).toNat : Int)) = true:=dt (by omega);have p2 : decide (((s[i]'hi).toNat : Int) ≤ 122) = false:=df (by omega);have p3 : decide (65 ≤ ((s[i]'hi).toNat : Int)) = true:=dt (by omega);have p4 : decide (((s[i]'hi).toNat : Int) ≤ 90) = false:=df (by omega);have p6 : decide (((s[i]'hi).toNat : Int) < 194) = false:=df (by omega);have p7 : decide (223 < ((s[i]'hi).toNat : Int)) = false:=df (by omega)
 have p5 : (((s[i]'hi).toNat : Int) == 95) = false:=by rw [beq_eq_false_iff_ne];omega
 have q1 : decide (((s[i + 1]'hj).toNat : Int) < 128) = false:=df (by omega);have q2 : decide (191 < ((s[i + 1]'hj).toNat : Int)) = false:=df (by omega);have q0 : decide ((s.size : Int) ≤ (i : Int) + 1) = false:=df (by omega);have r1 : decide (192 ≤ (((s[i]'hi).toNat : Int) - 192) * 64 + ((s[i + 1]'hj).toNat : Int) - 128) = false:=df (by omega);have r2 : decide ((((s[i]'hi).toNat : Int) - 192) * 64 + ((s[i + 1]'hj).toNat : Int) - 128 ≤ 591) = true:=dt (by omega);have r5 : decide (913 ≤ (((s[i]'hi).toNat : Int) - 192) * 64 + ((s[i + 1]'hj).toNat : Int) - 128) = false:=df (by omega)
 have r6 : decide ((((s[i]'hi).toNat : Int) - 192) * 64 + ((s[i + 1]'hj).toNat : Int) - 128 ≤ 969) = true:=dt (by omega);have r7 : decide (1040 ≤ (((s[i]'hi).toNat : Int) - 192) * 64 + ((s[i + 1]'hj).toNat : Int) - 128) = false:=df (by omega);have r8 : decide ((((s[i]'hi).toNat : Int) - 192) * 64 + ((s[i + 1]'hj).toNat : Int) - 128 ≤ 1103) = true:=dt (by omega);have r3 : (((((s[i]'hi).toNat : Int) - 192) * 64 + ((s[i + 1]'hj).toNat : Int) - 128) == 215) = false:=by rw [beq_eq_false_iff_ne];omega
 have r4 : (((((s[i]'hi).toNat : Int) - 192) * 64 + ((s[i + 1]'hj).toNat : Int) - 128) == 247) = false:=by rw [beq_eq_false_iff_ne];omega
 go_enter Tryz.func208,Tryz.ntmps208;go_wp2;go_ret;exact ⟨rfl,rfl⟩
theorem let_far1 (s : ByteArray) (i : Nat) (w : World) (hs : s.size ≤ maxLen) (hi : i < s.size) (hj : i + 1 < s.size) (h1 : 194 ≤ (s[i]'hi).toNat) (h2 : (s[i]'hi).toNat ≤ 223) (h3 : 128 ≤ (s[i + 1]'hj).toNat) (h4 : (s[i + 1]'hj).toNat ≤ 191) (h5 : 192 + 12416 ≤ (s[i]'hi).toNat * 64 + (s[i + 1]'hj).toNat) (h6 : (s[i]'hi).toNat * 64 + (s[i + 1]'hj).toNat ≤ 214 + 12416) :
  Calls Tryz.prog 208 #[.string s,.int .i64 (i : Int)] w fun e w' => e = .returned (.int .i64 2) ∧ w' = w:=by
 unfold maxLen at hs;have hc : (s[i]'hi).toNat < 256:=UInt8.toNat_lt _;have hc1 : (s[i + 1]'hj).toNat < 256:=UInt8.toNat_lt _;have p1 : decide (97 ≤ ((s[i]'hi).toNat : Int)) = true:=dt (by omega);have p2 : decide (((s[i]'hi).toNat : Int) ≤ 122) = false:=df (by omega);have p3 : decide (65 ≤ ((s[i]'hi).toNat : Int)) = true:=dt (by omega);have p4 : decide (((s[i]'hi).toNat : Int) ≤ 90) = false:=df (by omega);have p6 : decide (((s[i]'hi).toNat : Int) < 194) = false:=df (by omega);have p7 : decide (223 < ((s[i]'hi).toNat : Int)) = false:=df (by omega)
 have p5 : (((s[i]'hi).toNat : Int) == 95) = false:=by rw [beq_eq_false_iff_ne];omega
 have q1 : decide (((s[i + 1]'hj).toNat : Int) < 128) = false:=df (by omega);have q2 : decide (191 < ((s[i + 1]'hj).toNat : Int)) = false:=df (by omega);have q0 : decide ((s.size : Int) ≤ (i : Int) + 1) = false:=df (by omega);have r1 : decide (192 ≤ (((s[i]'hi).toNat : Int) - 192) * 64 + ((s[i + 1]'hj).toNat : Int) - 128) = true:=dt (by omega);have r2 : decide ((((s[i]'hi).toNat : Int) - 192) * 64 + ((s[i + 1]'hj).toNat : Int) - 128 ≤ 591) = true:=dt (by omega);have r5 : decide (913 ≤ (((s[i]'hi).toNat : Int) - 192) * 64 + ((s[i + 1]'hj).toNat : Int) - 128) = false:=df (by omega)
 have r6 : decide ((((s[i]'hi).toNat : Int) - 192) * 64 + ((s[i + 1]'hj).toNat : Int) - 128 ≤ 969) = true:=dt (by omega);have r7 : decide (1040 ≤ (((s[i]'hi).toNat : Int) - 192) * 64 + ((s[i + 1]'hj).toNat : Int) - 128) = false:=df (by omega);have r8 : decide ((((s[i]'hi).toNat : Int) - 192) * 64 + ((s[i + 1]'hj).toNat : Int) - 128 ≤ 1103) = true:=dt (by omega);have r3 : (((((s[i]'hi).toNat : Int) - 192) * 64 + ((s[i + 1]'hj).toNat : Int) - 128) == 215) = false:=by rw [beq_eq_false_iff_ne];omega
 have r4 : (((((s[i]'hi).toNat : Int) - 192) * 64 + ((s[i + 1]'hj).toNat : Int) - 128) == 247) = false:=by rw [beq_eq_false_iff_ne];omega
 go_enter Tryz.func208,Tryz.ntmps208;go_wp2;go_ret;exact ⟨rfl,rfl⟩
theorem let_far2 (s : ByteArray) (i : Nat) (w : World) (hs : s.size ≤ maxLen) (hi : i < s.size) (hj : i + 1 < s.size) (h1 : 194 ≤ (s[i]'hi).toNat) (h2 : (s[i]'hi).toNat ≤ 223) (h3 : 128 ≤ (s[i + 1]'hj).toNat) (h4 : (s[i + 1]'hj).toNat ≤ 191) (h5 : 215 + 12416 ≤ (s[i]'hi).toNat * 64 + (s[i + 1]'hj).toNat) (h6 : (s[i]'hi).toNat * 64 + (s[i + 1]'hj).toNat ≤ 215 + 12416) :
  Calls Tryz.prog 208 #[.string s,.int .i64 (i : Int)] w fun e w' => e = .returned (.int .i64 0) ∧ w' = w:=by
 unfold maxLen at hs;have hc : (s[i]'hi).toNat < 256:=UInt8.toNat_lt _;have hc1 : (s[i + 1]'hj).toNat < 256:=UInt8.toNat_lt _;have p1 : decide (97 ≤ ((s[i]'hi).toNat : Int)) = true:=dt (by omega);have p2 : decide (((s[i]'hi).toNat : Int) ≤ 122) = false:=df (by omega);have p3 : decide (65 ≤ ((s[i]'hi).toNat : Int)) = true:=dt (by omega);have p4 : decide (((s[i]'hi).toNat : Int) ≤ 90) = false:=df (by omega);have p6 : decide (((s[i]'hi).toNat : Int) < 194) = false:=df (by omega);have p7 : decide (223 < ((s[i]'hi).toNat : Int)) = false:=df (by omega)
 have p5 : (((s[i]'hi).toNat : Int) == 95) = false:=by rw [beq_eq_false_iff_ne];omega
 have q1 : decide (((s[i + 1]'hj).toNat : Int) < 128) = false:=df (by omega);have q2 : decide (191 < ((s[i + 1]'hj).toNat : Int)) = false:=df (by omega);have q0 : decide ((s.size : Int) ≤ (i : Int) + 1) = false:=df (by omega);have r1 : decide (192 ≤ (((s[i]'hi).toNat : Int) - 192) * 64 + ((s[i + 1]'hj).toNat : Int) - 128) = true:=dt (by omega);have r2 : decide ((((s[i]'hi).toNat : Int) - 192) * 64 + ((s[i + 1]'hj).toNat : Int) - 128 ≤ 591) = true:=dt (by omega);have r5 : decide (913 ≤ (((s[i]'hi).toNat : Int) - 192) * 64 + ((s[i + 1]'hj).toNat : Int) - 128) = false:=df (by omega)
 have r6 : decide ((((s[i]'hi).toNat : Int) - 192) * 64 + ((s[i + 1]'hj).toNat : Int) - 128 ≤ 969) = true:=dt (by omega);have r7 : decide (1040 ≤ (((s[i]'hi).toNat : Int) - 192) * 64 + ((s[i + 1]'hj).toNat : Int) - 128) = false:=df (by omega);have r8 : decide ((((s[i]'hi).toNat : Int) - 192) * 64 + ((s[i + 1]'hj).toNat : Int) - 128 ≤ 1103) = true:=dt (by omega);have r3 : (((((s[i]'hi).toNat : Int) - 192) * 64 + ((s[i + 1]'hj).toNat : Int) - 128) == 215) = true:=by rw [beq_iff_eq];omega
 have r4 : (((((s[i]'hi).toNat : Int) - 192) * 64 + ((s[i + 1]'hj).toNat : Int) - 128) == 247) = false:=by rw [beq_eq_false_iff_ne];omega
 go_enter Tryz.func208,Tryz.ntmps208;go_wp2;go_ret;exact ⟨rfl,rfl⟩
theorem let_far3 (s : ByteArray) (i : Nat) (w : World) (hs : s.size ≤ maxLen) (hi : i < s.size) (hj : i + 1 < s.size) (h1 : 194 ≤ (s[i]'hi).toNat) (h2 : (s[i]'hi).toNat ≤ 223) (h3 : 128 ≤ (s[i + 1]'hj).toNat) (h4 : (s[i + 1]'hj).toNat ≤ 191) (h5 : 216 + 12416 ≤ (s[i]'hi).toNat * 64 + (s[i + 1]'hj).toNat) (h6 : (s[i]'hi).toNat * 64 + (s[i + 1]'hj).toNat ≤ 246 + 12416) :
  Calls Tryz.prog 208 #[.string s,.int .i64 (i : Int)] w fun e w' => e = .returned (.int .i64 2) ∧ w' = w:=by
 unfold maxLen at hs;have hc : (s[i]'hi).toNat < 256:=UInt8.toNat_lt _;have hc1 : (s[i + 1]'hj).toNat < 256:=UInt8.toNat_lt _;have p1 : decide (97 ≤ ((s[i]'hi).toNat : Int)) = true:=dt (by omega);have p2 : decide (((s[i]'hi).toNat : Int) ≤ 122) = false:=df (by omega);have p3 : decide (65 ≤ ((s[i]'hi).toNat : Int)) = true:=dt (by omega);have p4 : decide (((s[i]'hi).toNat : Int) ≤ 90) = false:=df (by omega);have p6 : decide (((s[i]'hi).toNat : Int) < 194) = false:=df (by omega);have p7 : decide (223 < ((s[i]'hi).toNat : Int)) = false:=df (by omega)
 have p5 : (((s[i]'hi).toNat : Int) == 95) = false:=by rw [beq_eq_false_iff_ne];omega
 have q1 : decide (((s[i + 1]'hj).toNat : Int) < 128) = false:=df (by omega);have q2 : decide (191 < ((s[i + 1]'hj).toNat : Int)) = false:=df (by omega);have q0 : decide ((s.size : Int) ≤ (i : Int) + 1) = false:=df (by omega);have r1 : decide (192 ≤ (((s[i]'hi).toNat : Int) - 192) * 64 + ((s[i + 1]'hj).toNat : Int) - 128) = true:=dt (by omega);have r2 : decide ((((s[i]'hi).toNat : Int) - 192) * 64 + ((s[i + 1]'hj).toNat : Int) - 128 ≤ 591) = true:=dt (by omega);have r5 : decide (913 ≤ (((s[i]'hi).toNat : Int) - 192) * 64 + ((s[i + 1]'hj).toNat : Int) - 128) = false:=df (by omega)
 have r6 : decide ((((s[i]'hi).toNat : Int) - 192) * 64 + ((s[i + 1]'hj).toNat : Int) - 128 ≤ 969) = true:=dt (by omega);have r7 : decide (1040 ≤ (((s[i]'hi).toNat : Int) - 192) * 64 + ((s[i + 1]'hj).toNat : Int) - 128) = false:=df (by omega);have r8 : decide ((((s[i]'hi).toNat : Int) - 192) * 64 + ((s[i + 1]'hj).toNat : Int) - 128 ≤ 1103) = true:=dt (by omega);have r3 : (((((s[i]'hi).toNat : Int) - 192) * 64 + ((s[i + 1]'hj).toNat : Int) - 128) == 215) = false:=by rw [beq_eq_false_iff_ne];omega
 have r4 : (((((s[i]'hi).toNat : Int) - 192) * 64 + ((s[i + 1]'hj).toNat : Int) - 128) == 247) = false:=by rw [beq_eq_false_iff_ne];omega
 go_enter Tryz.func208,Tryz.ntmps208;go_wp2;go_ret;exact ⟨rfl,rfl⟩
theorem let_far4 (s : ByteArray) (i : Nat) (w : World) (hs : s.size ≤ maxLen) (hi : i < s.size) (hj : i + 1 < s.size) (h1 : 194 ≤ (s[i]'hi).toNat) (h2 : (s[i]'hi).toNat ≤ 223) (h3 : 128 ≤ (s[i + 1]'hj).toNat) (h4 : (s[i + 1]'hj).toNat ≤ 191) (h5 : 247 + 12416 ≤ (s[i]'hi).toNat * 64 + (s[i + 1]'hj).toNat) (h6 : (s[i]'hi).toNat * 64 + (s[i + 1]'hj).toNat ≤ 247 + 12416) :
  Calls Tryz.prog 208 #[.string s,.int .i64 (i : Int)] w fun e w' => e = .returned (.int .i64 0) ∧ w' = w:=by
 unfold maxLen at hs;have hc : (s[i]'hi).toNat < 256:=UInt8.toNat_lt _;have hc1 : (s[i + 1]'hj).toNat < 256:=UInt8.toNat_lt _;have p1 : decide (97 ≤ ((s[i]'hi).toNat : Int)) = true:=dt (by omega);have p2 : decide (((s[i]'hi).toNat : Int) ≤ 122) = false:=df (by omega);have p3 : decide (65 ≤ ((s[i]'hi).toNat : Int)) = true:=dt (by omega);have p4 : decide (((s[i]'hi).toNat : Int) ≤ 90) = false:=df (by omega);have p6 : decide (((s[i]'hi).toNat : Int) < 194) = false:=df (by omega);have p7 : decide (223 < ((s[i]'hi).toNat : Int)) = false:=df (by omega)
 have p5 : (((s[i]'hi).toNat : Int) == 95) = false:=by rw [beq_eq_false_iff_ne];omega
 have q1 : decide (((s[i + 1]'hj).toNat : Int) < 128) = false:=df (by omega);have q2 : decide (191 < ((s[i + 1]'hj).toNat : Int)) = false:=df (by omega);have q0 : decide ((s.size : Int) ≤ (i : Int) + 1) = false:=df (by omega);have r1 : decide (192 ≤ (((s[i]'hi).toNat : Int) - 192) * 64 + ((s[i + 1]'hj).toNat : Int) - 128) = true:=dt (by omega);have r2 : decide ((((s[i]'hi).toNat : Int) - 192) * 64 + ((s[i + 1]'hj).toNat : Int) - 128 ≤ 591) = true:=dt (by omega);have r5 : decide (913 ≤ (((s[i]'hi).toNat : Int) - 192) * 64 + ((s[i + 1]'hj).toNat : Int) - 128) = false:=df (by omega)
 have r6 : decide ((((s[i]'hi).toNat : Int) - 192) * 64 + ((s[i + 1]'hj).toNat : Int) - 128 ≤ 969) = true:=dt (by omega);have r7 : decide (1040 ≤ (((s[i]'hi).toNat : Int) - 192) * 64 + ((s[i + 1]'hj).toNat : Int) - 128) = false:=df (by omega);have r8 : decide ((((s[i]'hi).toNat : Int) - 192) * 64 + ((s[i + 1]'hj).toNat : Int) - 128 ≤ 1103) = true:=dt (by omega);have r3 : (((((s[i]'hi).toNat : Int) - 192) * 64 + ((s[i + 1]'hj).toNat : Int) - 128) == 215) = false:=by rw [beq_eq_false_iff_ne];omega
 have r4 : (((((s[i]'hi).toNat : Int) - 192) * 64 + ((s[i + 1]'hj).toNat : Int) - 128) == 247) = true:=by rw [beq_iff_eq];omega
 go_enter Tryz.func208,Tryz.ntmps208;go_wp2;go_ret;exact ⟨rfl,rfl⟩
theorem let_far5 (s : ByteArray) (i : Nat) (w : World) (hs : s.size ≤ maxLen) (hi : i < s.size) (hj : i + 1 < s.size) (h1 : 194 ≤ (s[i]'hi).toNat) (h2 : (s[i]'hi).toNat ≤ 223) (h3 : 128 ≤ (s[i + 1]'hj).toNat) (h4 : (s[i + 1]'hj).toNat ≤ 191) (h5 : 248 + 12416 ≤ (s[i]'hi).toNat * 64 + (s[i + 1]'hj).toNat) (h6 : (s[i]'hi).toNat * 64 + (s[i + 1]'hj).toNat ≤ 591 + 12416) :
  Calls Tryz.prog 208 #[.string s,.int .i64 (i : Int)] w fun e w' => e = .returned (.int .i64 2) ∧ w' = w:=by
 unfold maxLen at hs;have hc : (s[i]'hi).toNat < 256:=UInt8.toNat_lt _;have hc1 : (s[i + 1]'hj).toNat < 256:=UInt8.toNat_lt _;have p1 : decide (97 ≤ ((s[i]'hi).toNat : Int)) = true:=dt (by omega);have p2 : decide (((s[i]'hi).toNat : Int) ≤ 122) = false:=df (by omega);have p3 : decide (65 ≤ ((s[i]'hi).toNat : Int)) = true:=dt (by omega);have p4 : decide (((s[i]'hi).toNat : Int) ≤ 90) = false:=df (by omega);have p6 : decide (((s[i]'hi).toNat : Int) < 194) = false:=df (by omega);have p7 : decide (223 < ((s[i]'hi).toNat : Int)) = false:=df (by omega)
 have p5 : (((s[i]'hi).toNat : Int) == 95) = false:=by rw [beq_eq_false_iff_ne];omega
 have q1 : decide (((s[i + 1]'hj).toNat : Int) < 128) = false:=df (by omega);have q2 : decide (191 < ((s[i + 1]'hj).toNat : Int)) = false:=df (by omega);have q0 : decide ((s.size : Int) ≤ (i : Int) + 1) = false:=df (by omega);have r1 : decide (192 ≤ (((s[i]'hi).toNat : Int) - 192) * 64 + ((s[i + 1]'hj).toNat : Int) - 128) = true:=dt (by omega);have r2 : decide ((((s[i]'hi).toNat : Int) - 192) * 64 + ((s[i + 1]'hj).toNat : Int) - 128 ≤ 591) = true:=dt (by omega);have r5 : decide (913 ≤ (((s[i]'hi).toNat : Int) - 192) * 64 + ((s[i + 1]'hj).toNat : Int) - 128) = false:=df (by omega)
 have r6 : decide ((((s[i]'hi).toNat : Int) - 192) * 64 + ((s[i + 1]'hj).toNat : Int) - 128 ≤ 969) = true:=dt (by omega);have r7 : decide (1040 ≤ (((s[i]'hi).toNat : Int) - 192) * 64 + ((s[i + 1]'hj).toNat : Int) - 128) = false:=df (by omega);have r8 : decide ((((s[i]'hi).toNat : Int) - 192) * 64 + ((s[i + 1]'hj).toNat : Int) - 128 ≤ 1103) = true:=dt (by omega);have r3 : (((((s[i]'hi).toNat : Int) - 192) * 64 + ((s[i + 1]'hj).toNat : Int) - 128) == 215) = false:=by rw [beq_eq_false_iff_ne];omega
 have r4 : (((((s[i]'hi).toNat : Int) - 192) * 64 + ((s[i + 1]'hj).toNat : Int) - 128) == 247) = false:=by rw [beq_eq_false_iff_ne];omega
 go_enter Tryz.func208,Tryz.ntmps208;go_wp2;go_ret;exact ⟨rfl,rfl⟩
theorem let_far6 (s : ByteArray) (i : Nat) (w : World) (hs : s.size ≤ maxLen) (hi : i < s.size) (hj : i + 1 < s.size) (h1 : 194 ≤ (s[i]'hi).toNat) (h2 : (s[i]'hi).toNat ≤ 223) (h3 : 128 ≤ (s[i + 1]'hj).toNat) (h4 : (s[i + 1]'hj).toNat ≤ 191) (h5 : 592 + 12416 ≤ (s[i]'hi).toNat * 64 + (s[i + 1]'hj).toNat) (h6 : (s[i]'hi).toNat * 64 + (s[i + 1]'hj).toNat ≤ 912 + 12416) :
  Calls Tryz.prog 208 #[.string s,.int .i64 (i : Int)] w fun e w' => e = .returned (.int .i64 0) ∧ w' = w:=by
 unfold maxLen at hs;have hc : (s[i]'hi).toNat < 256:=UInt8.toNat_lt _;have hc1 : (s[i + 1]'hj).toNat < 256:=UInt8.toNat_lt _;have p1 : decide (97 ≤ ((s[i]'hi).toNat : Int)) = true:=dt (by omega);have p2 : decide (((s[i]'hi).toNat : Int) ≤ 122) = false:=df (by omega);have p3 : decide (65 ≤ ((s[i]'hi).toNat : Int)) = true:=dt (by omega);have p4 : decide (((s[i]'hi).toNat : Int) ≤ 90) = false:=df (by omega);have p6 : decide (((s[i]'hi).toNat : Int) < 194) = false:=df (by omega);have p7 : decide (223 < ((s[i]'hi).toNat : Int)) = false:=df (by omega)
 have p5 : (((s[i]'hi).toNat : Int) == 95) = false:=by rw [beq_eq_false_iff_ne];omega
 have q1 : decide (((s[i + 1]'hj).toNat : Int) < 128) = false:=df (by omega);have q2 : decide (191 < ((s[i + 1]'hj).toNat : Int)) = false:=df (by omega);have q0 : decide ((s.size : Int) ≤ (i : Int) + 1) = false:=df (by omega);have r1 : decide (192 ≤ (((s[i]'hi).toNat : Int) - 192) * 64 + ((s[i + 1]'hj).toNat : Int) - 128) = true:=dt (by omega);have r2 : decide ((((s[i]'hi).toNat : Int) - 192) * 64 + ((s[i + 1]'hj).toNat : Int) - 128 ≤ 591) = false:=df (by omega);have r5 : decide (913 ≤ (((s[i]'hi).toNat : Int) - 192) * 64 + ((s[i + 1]'hj).toNat : Int) - 128) = false:=df (by omega)
 have r6 : decide ((((s[i]'hi).toNat : Int) - 192) * 64 + ((s[i + 1]'hj).toNat : Int) - 128 ≤ 969) = true:=dt (by omega);have r7 : decide (1040 ≤ (((s[i]'hi).toNat : Int) - 192) * 64 + ((s[i + 1]'hj).toNat : Int) - 128) = false:=df (by omega);have r8 : decide ((((s[i]'hi).toNat : Int) - 192) * 64 + ((s[i + 1]'hj).toNat : Int) - 128 ≤ 1103) = true:=dt (by omega);have r3 : (((((s[i]'hi).toNat : Int) - 192) * 64 + ((s[i + 1]'hj).toNat : Int) - 128) == 215) = false:=by rw [beq_eq_false_iff_ne];omega
 have r4 : (((((s[i]'hi).toNat : Int) - 192) * 64 + ((s[i + 1]'hj).toNat : Int) - 128) == 247) = false:=by rw [beq_eq_false_iff_ne];omega
 go_enter Tryz.func208,Tryz.ntmps208;go_wp2;go_ret;exact ⟨rfl,rfl⟩
theorem let_far7 (s : ByteArray) (i : Nat) (w : World) (hs : s.size ≤ maxLen) (hi : i < s.size) (hj : i + 1 < s.size) (h1 : 194 ≤ (s[i]'hi).toNat) (h2 : (s[i]'hi).toNat ≤ 223) (h3 : 128 ≤ (s[i + 1]'hj).toNat) (h4 : (s[i + 1]'hj).toNat ≤ 191) (h5 : 913 + 12416 ≤ (s[i]'hi).toNat * 64 + (s[i + 1]'hj).toNat) (h6 : (s[i]'hi).toNat * 64 + (s[i + 1]'hj).toNat ≤ 969 + 12416) :
  Calls Tryz.prog 208 #[.string s,.int .i64 (i : Int)] w fun e w' => e = .returned (.int .i64 2) ∧ w' = w:=by
 unfold maxLen at hs;have hc : (s[i]'hi).toNat < 256:=UInt8.toNat_lt _;have hc1 : (s[i + 1]'hj).toNat < 256:=UInt8.toNat_lt _;have p1 : decide (97 ≤ ((s[i]'hi).toNat : Int)) = true:=dt (by omega);have p2 : decide (((s[i]'hi).toNat : Int) ≤ 122) = false:=df (by omega);have p3 : decide (65 ≤ ((s[i]'hi).toNat : Int)) = true:=dt (by omega);have p4 : decide (((s[i]'hi).toNat : Int) ≤ 90) = false:=df (by omega);have p6 : decide (((s[i]'hi).toNat : Int) < 194) = false:=df (by omega);have p7 : decide (223 < ((s[i]'hi).toNat : Int)) = false:=df (by omega)
 have p5 : (((s[i]'hi).toNat : Int) == 95) = false:=by rw [beq_eq_false_iff_ne];omega
 have q1 : decide (((s[i + 1]'hj).toNat : Int) < 128) = false:=df (by omega);have q2 : decide (191 < ((s[i + 1]'hj).toNat : Int)) = false:=df (by omega);have q0 : decide ((s.size : Int) ≤ (i : Int) + 1) = false:=df (by omega);have r1 : decide (192 ≤ (((s[i]'hi).toNat : Int) - 192) * 64 + ((s[i + 1]'hj).toNat : Int) - 128) = true:=dt (by omega);have r2 : decide ((((s[i]'hi).toNat : Int) - 192) * 64 + ((s[i + 1]'hj).toNat : Int) - 128 ≤ 591) = false:=df (by omega);have r5 : decide (913 ≤ (((s[i]'hi).toNat : Int) - 192) * 64 + ((s[i + 1]'hj).toNat : Int) - 128) = true:=dt (by omega)
 have r6 : decide ((((s[i]'hi).toNat : Int) - 192) * 64 + ((s[i + 1]'hj).toNat : Int) - 128 ≤ 969) = true:=dt (by omega);have r7 : decide (1040 ≤ (((s[i]'hi).toNat : Int) - 192) * 64 + ((s[i + 1]'hj).toNat : Int) - 128) = false:=df (by omega);have r8 : decide ((((s[i]'hi).toNat : Int) - 192) * 64 + ((s[i + 1]'hj).toNat : Int) - 128 ≤ 1103) = true:=dt (by omega);have r3 : (((((s[i]'hi).toNat : Int) - 192) * 64 + ((s[i + 1]'hj).toNat : Int) - 128) == 215) = false:=by rw [beq_eq_false_iff_ne];omega
 have r4 : (((((s[i]'hi).toNat : Int) - 192) * 64 + ((s[i + 1]'hj).toNat : Int) - 128) == 247) = false:=by rw [beq_eq_false_iff_ne];omega
 go_enter Tryz.func208,Tryz.ntmps208;go_wp2;go_ret;exact ⟨rfl,rfl⟩
theorem let_far8 (s : ByteArray) (i : Nat) (w : World) (hs : s.size ≤ maxLen) (hi : i < s.size) (hj : i + 1 < s.size) (h1 : 194 ≤ (s[i]'hi).toNat) (h2 : (s[i]'hi).toNat ≤ 223) (h3 : 128 ≤ (s[i + 1]'hj).toNat) (h4 : (s[i + 1]'hj).toNat ≤ 191) (h5 : 970 + 12416 ≤ (s[i]'hi).toNat * 64 + (s[i + 1]'hj).toNat) (h6 : (s[i]'hi).toNat * 64 + (s[i + 1]'hj).toNat ≤ 1039 + 12416) :
  Calls Tryz.prog 208 #[.string s,.int .i64 (i : Int)] w fun e w' => e = .returned (.int .i64 0) ∧ w' = w:=by
 unfold maxLen at hs;have hc : (s[i]'hi).toNat < 256:=UInt8.toNat_lt _;have hc1 : (s[i + 1]'hj).toNat < 256:=UInt8.toNat_lt _;have p1 : decide (97 ≤ ((s[i]'hi).toNat : Int)) = true:=dt (by omega);have p2 : decide (((s[i]'hi).toNat : Int) ≤ 122) = false:=df (by omega);have p3 : decide (65 ≤ ((s[i]'hi).toNat : Int)) = true:=dt (by omega);have p4 : decide (((s[i]'hi).toNat : Int) ≤ 90) = false:=df (by omega);have p6 : decide (((s[i]'hi).toNat : Int) < 194) = false:=df (by omega);have p7 : decide (223 < ((s[i]'hi).toNat : Int)) = false:=df (by omega)
 have p5 : (((s[i]'hi).toNat : Int) == 95) = false:=by rw [beq_eq_false_iff_ne];omega
 have q1 : decide (((s[i + 1]'hj).toNat : Int) < 128) = false:=df (by omega);have q2 : decide (191 < ((s[i + 1]'hj).toNat : Int)) = false:=df (by omega);have q0 : decide ((s.size : Int) ≤ (i : Int) + 1) = false:=df (by omega);have r1 : decide (192 ≤ (((s[i]'hi).toNat : Int) - 192) * 64 + ((s[i + 1]'hj).toNat : Int) - 128) = true:=dt (by omega);have r2 : decide ((((s[i]'hi).toNat : Int) - 192) * 64 + ((s[i + 1]'hj).toNat : Int) - 128 ≤ 591) = false:=df (by omega);have r5 : decide (913 ≤ (((s[i]'hi).toNat : Int) - 192) * 64 + ((s[i + 1]'hj).toNat : Int) - 128) = true:=dt (by omega)
 have r6 : decide ((((s[i]'hi).toNat : Int) - 192) * 64 + ((s[i + 1]'hj).toNat : Int) - 128 ≤ 969) = false:=df (by omega);have r7 : decide (1040 ≤ (((s[i]'hi).toNat : Int) - 192) * 64 + ((s[i + 1]'hj).toNat : Int) - 128) = false:=df (by omega);have r8 : decide ((((s[i]'hi).toNat : Int) - 192) * 64 + ((s[i + 1]'hj).toNat : Int) - 128 ≤ 1103) = true:=dt (by omega);have r3 : (((((s[i]'hi).toNat : Int) - 192) * 64 + ((s[i + 1]'hj).toNat : Int) - 128) == 215) = false:=by rw [beq_eq_false_iff_ne];omega
 have r4 : (((((s[i]'hi).toNat : Int) - 192) * 64 + ((s[i + 1]'hj).toNat : Int) - 128) == 247) = false:=by rw [beq_eq_false_iff_ne];omega
 go_enter Tryz.func208,Tryz.ntmps208;go_wp2;go_ret;exact ⟨rfl,rfl⟩
theorem let_far9 (s : ByteArray) (i : Nat) (w : World) (hs : s.size ≤ maxLen) (hi : i < s.size) (hj : i + 1 < s.size) (h1 : 194 ≤ (s[i]'hi).toNat) (h2 : (s[i]'hi).toNat ≤ 223) (h3 : 128 ≤ (s[i + 1]'hj).toNat) (h4 : (s[i + 1]'hj).toNat ≤ 191) (h5 : 1040 + 12416 ≤ (s[i]'hi).toNat * 64 + (s[i + 1]'hj).toNat) (h6 : (s[i]'hi).toNat * 64 + (s[i + 1]'hj).toNat ≤ 1103 + 12416) :
  Calls Tryz.prog 208 #[.string s,.int .i64 (i : Int)] w fun e w' => e = .returned (.int .i64 2) ∧ w' = w:=by
 unfold maxLen at hs;have hc : (s[i]'hi).toNat < 256:=UInt8.toNat_lt _;have hc1 : (s[i + 1]'hj).toNat < 256:=UInt8.toNat_lt _;have p1 : decide (97 ≤ ((s[i]'hi).toNat : Int)) = true:=dt (by omega);have p2 : decide (((s[i]'hi).toNat : Int) ≤ 122) = false:=df (by omega);have p3 : decide (65 ≤ ((s[i]'hi).toNat : Int)) = true:=dt (by omega);have p4 : decide (((s[i]'hi).toNat : Int) ≤ 90) = false:=df (by omega);have p6 : decide (((s[i]'hi).toNat : Int) < 194) = false:=df (by omega);have p7 : decide (223 < ((s[i]'hi).toNat : Int)) = false:=df (by omega)
 have p5 : (((s[i]'hi).toNat : Int) == 95) = false:=by rw [beq_eq_false_iff_ne];omega
 have q1 : decide (((s[i + 1]'hj).toNat : Int) < 128) = false:=df (by omega);have q2 : decide (191 < ((s[i + 1]'hj).toNat : Int)) = false:=df (by omega);have q0 : decide ((s.size : Int) ≤ (i : Int) + 1) = false:=df (by omega);have r1 : decide (192 ≤ (((s[i]'hi).toNat : Int) - 192) * 64 + ((s[i + 1]'hj).toNat : Int) - 128) = true:=dt (by omega);have r2 : decide ((((s[i]'hi).toNat : Int) - 192) * 64 + ((s[i + 1]'hj).toNat : Int) - 128 ≤ 591) = false:=df (by omega);have r5 : decide (913 ≤ (((s[i]'hi).toNat : Int) - 192) * 64 + ((s[i + 1]'hj).toNat : Int) - 128) = true:=dt (by omega)
 have r6 : decide ((((s[i]'hi).toNat : Int) - 192) * 64 + ((s[i + 1]'hj).toNat : Int) - 128 ≤ 969) = false:=df (by omega);have r7 : decide (1040 ≤ (((s[i]'hi).toNat : Int) - 192) * 64 + ((s[i + 1]'hj).toNat : Int) - 128) = true:=dt (by omega);have r8 : decide ((((s[i]'hi).toNat : Int) - 192) * 64 + ((s[i + 1]'hj).toNat : Int) - 128 ≤ 1103) = true:=dt (by omega);have r3 : (((((s[i]'hi).toNat : Int) - 192) * 64 + ((s[i + 1]'hj).toNat : Int) - 128) == 215) = false:=by rw [beq_eq_false_iff_ne];omega
 have r4 : (((((s[i]'hi).toNat : Int) - 192) * 64 + ((s[i + 1]'hj).toNat : Int) - 128) == 247) = false:=by rw [beq_eq_false_iff_ne];omega
 go_enter Tryz.func208,Tryz.ntmps208;go_wp2;go_ret;exact ⟨rfl,rfl⟩
theorem let_far10 (s : ByteArray) (i : Nat) (w : World) (hs : s.size ≤ maxLen) (hi : i < s.size) (hj : i + 1 < s.size) (h1 : 194 ≤ (s[i]'hi).toNat) (h2 : (s[i]'hi).toNat ≤ 223) (h3 : 128 ≤ (s[i + 1]'hj).toNat) (h4 : (s[i + 1]'hj).toNat ≤ 191) (h5 : 1104 + 12416 ≤ (s[i]'hi).toNat * 64 + (s[i + 1]'hj).toNat) (h6 : (s[i]'hi).toNat * 64 + (s[i + 1]'hj).toNat ≤ 2047 + 12416) :
  Calls Tryz.prog 208 #[.string s,.int .i64 (i : Int)] w fun e w' => e = .returned (.int .i64 0) ∧ w' = w:=by
 unfold maxLen at hs;have hc : (s[i]'hi).toNat < 256:=UInt8.toNat_lt _;have hc1 : (s[i + 1]'hj).toNat < 256:=UInt8.toNat_lt _;have p1 : decide (97 ≤ ((s[i]'hi).toNat : Int)) = true:=dt (by omega);have p2 : decide (((s[i]'hi).toNat : Int) ≤ 122) = false:=df (by omega);have p3 : decide (65 ≤ ((s[i]'hi).toNat : Int)) = true:=dt (by omega);have p4 : decide (((s[i]'hi).toNat : Int) ≤ 90) = false:=df (by omega);have p6 : decide (((s[i]'hi).toNat : Int) < 194) = false:=df (by omega);have p7 : decide (223 < ((s[i]'hi).toNat : Int)) = false:=df (by omega)
 have p5 : (((s[i]'hi).toNat : Int) == 95) = false:=by rw [beq_eq_false_iff_ne];omega
 have q1 : decide (((s[i + 1]'hj).toNat : Int) < 128) = false:=df (by omega);have q2 : decide (191 < ((s[i + 1]'hj).toNat : Int)) = false:=df (by omega);have q0 : decide ((s.size : Int) ≤ (i : Int) + 1) = false:=df (by omega);have r1 : decide (192 ≤ (((s[i]'hi).toNat : Int) - 192) * 64 + ((s[i + 1]'hj).toNat : Int) - 128) = true:=dt (by omega);have r2 : decide ((((s[i]'hi).toNat : Int) - 192) * 64 + ((s[i + 1]'hj).toNat : Int) - 128 ≤ 591) = false:=df (by omega);have r5 : decide (913 ≤ (((s[i]'hi).toNat : Int) - 192) * 64 + ((s[i + 1]'hj).toNat : Int) - 128) = true:=dt (by omega)
 have r6 : decide ((((s[i]'hi).toNat : Int) - 192) * 64 + ((s[i + 1]'hj).toNat : Int) - 128 ≤ 969) = false:=df (by omega);have r7 : decide (1040 ≤ (((s[i]'hi).toNat : Int) - 192) * 64 + ((s[i + 1]'hj).toNat : Int) - 128) = true:=dt (by omega);have r8 : decide ((((s[i]'hi).toNat : Int) - 192) * 64 + ((s[i + 1]'hj).toNat : Int) - 128 ≤ 1103) = false:=df (by omega);have r3 : (((((s[i]'hi).toNat : Int) - 192) * 64 + ((s[i + 1]'hj).toNat : Int) - 128) == 215) = false:=by rw [beq_eq_false_iff_ne];omega
 have r4 : (((((s[i]'hi).toNat : Int) - 192) * 64 + ((s[i + 1]'hj).toNat : Int) - 128) == 247) = false:=by rw [beq_eq_false_iff_ne];omega
 go_enter Tryz.func208,Tryz.ntmps208;go_wp2;go_ret;exact ⟨rfl,rfl⟩
theorem let_any (s : ByteArray) (i : Nat) (w : World) (hs : s.size ≤ maxLen) (hi : i < s.size) :
  Calls Tryz.prog 208 #[.string s,.int .i64 (i : Int)] w fun e w' => e = .returned (.int .i64 (letN s i : Int)) ∧ w' = w:=by
 have hc : (s[i]'hi).toNat < 256:=UInt8.toNat_lt _
 by_cases a0 : 97 ≤ (s[i]'hi).toNat ∧ (s[i]'hi).toNat ≤ 122
 ·rw [letN_one s i hi (by omega)]
  exact let_one0 s i w hs hi a0.1 a0.2
 by_cases a1 : 65 ≤ (s[i]'hi).toNat ∧ (s[i]'hi).toNat ≤ 90
 ·rw [letN_one s i hi (by omega)]
  exact let_one1 s i w hs hi a1.1 a1.2
 by_cases a2 : 95 ≤ (s[i]'hi).toNat ∧ (s[i]'hi).toNat ≤ 95
 ·rw [letN_one s i hi (by omega)]
  exact let_one2 s i w hs hi a2.1 a2.2
 by_cases b0 : 0 ≤ (s[i]'hi).toNat ∧ (s[i]'hi).toNat ≤ 64
 ·rw [letN_zero s i hi (by omega) (by omega)]
  exact let_zero0 s i w hs hi b0.1 b0.2
 by_cases b1 : 91 ≤ (s[i]'hi).toNat ∧ (s[i]'hi).toNat ≤ 94
 ·rw [letN_zero s i hi (by omega) (by omega)]
  exact let_zero1 s i w hs hi b1.1 b1.2
 by_cases b2 : 96 ≤ (s[i]'hi).toNat ∧ (s[i]'hi).toNat ≤ 96
 ·rw [letN_zero s i hi (by omega) (by omega)]
  exact let_zero2 s i w hs hi b2.1 b2.2
 by_cases b3 : 123 ≤ (s[i]'hi).toNat ∧ (s[i]'hi).toNat ≤ 193
 ·rw [letN_zero s i hi (by omega) (by omega)]
  exact let_zero3 s i w hs hi b3.1 b3.2
 by_cases b4 : 224 ≤ (s[i]'hi).toNat ∧ (s[i]'hi).toNat ≤ 255
 ·rw [letN_zero s i hi (by omega) (by omega)]
  exact let_zero4 s i w hs hi b4.1 b4.2
 have g1 : 194 ≤ (s[i]'hi).toNat:=by omega
 have g2 : (s[i]'hi).toNat ≤ 223:=by omega
 by_cases hj : i + 1 < s.size
 ·have hc1 : (s[i + 1]'hj).toNat < 256:=UInt8.toNat_lt _
  by_cases d0 : (s[i + 1]'hj).toNat < 128
  ·rw [letN_tail s i hi hj g1 g2 (Or.inl d0)]
   exact let_low s i w hs hi hj g1 g2 d0
  by_cases d1 : 191 < (s[i + 1]'hj).toNat
  ·rw [letN_tail s i hi hj g1 g2 (Or.inr d1)]
   exact let_high s i w hs hi hj g1 g2 d1
  have g3 : 128 ≤ (s[i + 1]'hj).toNat:=by omega
  have g4 : (s[i + 1]'hj).toNat ≤ 191:=by omega
  by_cases f0 : (s[i]'hi).toNat * 64 + (s[i + 1]'hj).toNat ≤ 191 + 12416
  ·rw [letN_far s i hi hj g1 g2 g3 g4 false (df (by omega))]
   exact let_far0 s i w hs hi hj g1 g2 g3 g4 (by omega) (by omega)
  by_cases f1 : (s[i]'hi).toNat * 64 + (s[i + 1]'hj).toNat ≤ 214 + 12416
  ·rw [letN_far s i hi hj g1 g2 g3 g4 true (dt (by omega))]
   exact let_far1 s i w hs hi hj g1 g2 g3 g4 (by omega) (by omega)
  by_cases f2 : (s[i]'hi).toNat * 64 + (s[i + 1]'hj).toNat ≤ 215 + 12416
  ·rw [letN_far s i hi hj g1 g2 g3 g4 false (df (by omega))]
   exact let_far2 s i w hs hi hj g1 g2 g3 g4 (by omega) (by omega)
  by_cases f3 : (s[i]'hi).toNat * 64 + (s[i + 1]'hj).toNat ≤ 246 + 12416
  ·rw [letN_far s i hi hj g1 g2 g3 g4 true (dt (by omega))]
   exact let_far3 s i w hs hi hj g1 g2 g3 g4 (by omega) (by omega)
  by_cases f4 : (s[i]'hi).toNat * 64 + (s[i + 1]'hj).toNat ≤ 247 + 12416
  ·rw [letN_far s i hi hj g1 g2 g3 g4 false (df (by omega))]
   exact let_far4 s i w hs hi hj g1 g2 g3 g4 (by omega) (by omega)
  by_cases f5 : (s[i]'hi).toNat * 64 + (s[i + 1]'hj).toNat ≤ 591 + 12416
  ·rw [letN_far s i hi hj g1 g2 g3 g4 true (dt (by omega))]
   exact let_far5 s i w hs hi hj g1 g2 g3 g4 (by omega) (by omega)
  by_cases f6 : (s[i]'hi).toNat * 64 + (s[i + 1]'hj).toNat ≤ 912 + 12416
  ·rw [letN_far s i hi hj g1 g2 g3 g4 false (df (by omega))]
   exact let_far6 s i w hs hi hj g1 g2 g3 g4 (by omega) (by omega)
  by_cases f7 : (s[i]'hi).toNat * 64 + (s[i + 1]'hj).toNat ≤ 969 + 12416
  ·rw [letN_far s i hi hj g1 g2 g3 g4 true (dt (by omega))]
   exact let_far7 s i w hs hi hj g1 g2 g3 g4 (by omega) (by omega)
  by_cases f8 : (s[i]'hi).toNat * 64 + (s[i + 1]'hj).toNat ≤ 1039 + 12416
  ·rw [letN_far s i hi hj g1 g2 g3 g4 false (df (by omega))]
   exact let_far8 s i w hs hi hj g1 g2 g3 g4 (by omega) (by omega)
  by_cases f9 : (s[i]'hi).toNat * 64 + (s[i + 1]'hj).toNat ≤ 1103 + 12416
  ·rw [letN_far s i hi hj g1 g2 g3 g4 true (dt (by omega))]
   exact let_far9 s i w hs hi hj g1 g2 g3 g4 (by omega) (by omega)
  rw [letN_far s i hi hj g1 g2 g3 g4 false (df (by omega))];exact let_far10 s i w hs hi hj g1 g2 g3 g4 (by omega) (by omega)
 ·rw [letN_zero s i hi (by omega) (by omega)]
  exact let_end s i w hs hi g1 g2 (by omega)
end Go.Proofs.YtkiplmabjeadgaaGreat
