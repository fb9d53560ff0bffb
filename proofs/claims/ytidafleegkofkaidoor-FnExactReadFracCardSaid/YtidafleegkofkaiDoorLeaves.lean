/-
  What the small functions of the fractions answer: signs, sizes and common divisors.
-/
import Derived.Test.YtidafleegkofkaiDoorRows
import Derived.WalkKit
import Derived.ProofKit
import Derived.OpenShut
import Derived.Deep.QuietTactic
import Derived.BigQuiet
import Derived.Test.YtidafleegkofkaiDoorMath
namespace Go.Proofs.YtidafleegkofkaiDoor
open Go.ChangeShapes Go.WideShapes Go.ChangeAt Go.RowKit
set_option linter.unusedVariables false


theorem hide {p : Prop} (h : p) : Hid p := h

theorem unhide {p : Prop} (h : Hid p) : p := h

theorem ret_int {k : IntKind} {a b : Int} (h : a = b) : Ending.returned (.int k a) = .returned (.int k b) := by rw [h]

theorem abs_any (n : Int) (w : World) (h1 : -9223372036854775807 ≤ n) (h2 : n ≤ 9223372036854775807) :
    Calls Tryd.prog 19 #[.int .i64 n] w fun e w' => e = .returned (.int .i64 (n.natAbs : Int)) ∧ w' = w := by
  by_cases hn : n < 0
  · go_enter Tryd.func19, Tryd.ntmps19
    go_wp2
    go_ret
    exact ⟨ret_int (by omega), rfl⟩
  · go_enter Tryd.func19, Tryd.ntmps19
    go_wp2
    go_ret
    exact ⟨ret_int (by omega), rfl⟩

set_option maxHeartbeats 400000 in
theorem gcd_any (a b : Int) (w : World) (ha1 : -9223372036854775808 ≤ a) (ha2 : a ≤ 9223372036854775807) (hb1 : -9223372036854775808 ≤ b) (hb2 : b ≤ 9223372036854775807) :
    Calls Tryd.prog 20 #[.int .i64 a, .int .i64 b] w fun e w' => (∃ r : Int, e = .returned (.int .i64 r) ∧ r.natAbs = Nat.gcd a.natAbs b.natAbs ∧ (a ≤ 0 → b ≤ 0 → r ≤ 0) ∧ -9223372036854775808 ≤ r ∧ r ≤ 9223372036854775807) ∧ w' = w := by
  go_enter Tryd.func20, Tryd.ntmps20
  go_wp2
  go_loop [0, 1] (fun s t => ∃ x y : Int, s = .int .i64 x ∧ t = .int .i64 y ∧ Nat.gcd x.natAbs y.natAbs = Nat.gcd a.natAbs b.natAbs ∧ (a ≤ 0 → b ≤ 0 → x ≤ 0 ∧ y ≤ 0) ∧ -9223372036854775808 ≤ x ∧ x ≤ 9223372036854775807 ∧ -9223372036854775808 ≤ y ∧ y ≤ 9223372036854775807) (fun _ t => (intOf t).natAbs)
  case atStart => exact ⟨a, b, rfl, rfl, rfl, fun p q => ⟨p, q⟩, ha1, ha2, hb1, hb2⟩
  case round =>
    obtain ⟨x, y, rfl, rfl, hg, hs, hx1, hx2, hy1, hy2⟩ := hrel
    have HG := hide hg
    have HS := hide hs
    clear hg hs
    by_cases hy : y = 0
    · have hb : (y != 0) = false := by simp [hy]
      have hb' : (y == 0) = true := by simp [hy]
      have HY := hide hy
      clear hy
      go_wp2
      go_ret
      exact ⟨⟨x, rfl, by have := unhide HG; rw [unhide HY] at this; simpa using this, fun p q => (unhide HS p q).1, hx1, hx2⟩, rfl⟩
    · have hb : (y != 0) = true := by simp [hy]
      have hb' : (y == 0) = false := by simp [hy]
      have hbd := tmod_bd x y ⟨hx1, hx2⟩
      have hlt := tmod_lt x y hy
      have HG2 : Hid (Nat.gcd y.natAbs (x.tmod y).natAbs = Nat.gcd a.natAbs b.natAbs) := hide ((gcd_step x y).trans (unhide HG))
      have HS2 : Hid (a ≤ 0 → b ≤ 0 → y ≤ 0 ∧ x.tmod y ≤ 0) := hide (fun p q => ⟨(unhide HS p q).2, tmod_neg x y (unhide HS p q).1⟩)
      go_wp2
      go_round
      case rel => exact ⟨y, x.tmod y, rfl, rfl, unhide HG2, unhide HS2, hy1, hy2, hbd.1, hbd.2⟩
      case measure => simp only [intOf]; exact hlt

theorem wrap_neg (n : Int) (h1 : -9223372036854775808 ≤ n) (h2 : n < 0) : IntKind.u64.wrap (-IntKind.u64.wrap n) = (n.natAbs : Int) := by
  simp only [IntKind.wrap, IntKind.bits, IntKind.signed]
  simp
  omega

theorem mag_any (n : Int) (w : World) (h1 : -9223372036854775808 ≤ n) (h2 : n ≤ 9223372036854775807) :
    Calls Tryd.prog 26 #[.int .i64 n] w fun e w' => e = .returned (.int .u64 (n.natAbs : Int)) ∧ w' = w := by
  by_cases hn : n < 0
  · go_enter Tryd.func26, Tryd.ntmps26
    go_wp2
    go_ret
    exact ⟨ret_int (wrap_neg n h1 hn), rfl⟩
  · go_enter Tryd.func26, Tryd.ntmps26
    go_wp2
    go_ret
    exact ⟨ret_int (by omega), rfl⟩

set_option maxHeartbeats 400000 in
theorem com_any (a b : Nat) (w : World) (ha : a ≤ 9223372036854775808) (hb : b ≤ 9223372036854775808) :
    Calls Tryd.prog 27 #[.int .u64 (a : Int), .int .u64 (b : Int)] w fun e w' => e = .returned (.int .u64 (Nat.gcd a b : Int)) ∧ ∃ q, w' = w.drewN q := by
  go_enter Tryd.func27, Tryd.ntmps27
  go_wp2
  go_loopw [0, 1] (fun s t w' => ∃ x y q : Nat, s = .int .u64 (x : Int) ∧ t = .int .u64 (y : Int) ∧ Nat.gcd x y = Nat.gcd a b ∧ x ≤ 9223372036854775808 ∧ y ≤ 9223372036854775808 ∧ w' = w.drewN q) (fun _ t _ => (intOf t).natAbs)
  case atStart => exact ⟨a, b, 0, rfl, rfl, rfl, ha, hb, rfl⟩
  case round =>
    obtain ⟨x, y, q, rfl, rfl, hg, hx, hy, rfl⟩ := hrel
    have HG := hide hg
    clear hg
    by_cases h0 : y = 0
    · subst h0
      go_wp2
      go_ret
      exact ⟨ret_int (by rw [← unhide HG, Nat.gcd_zero_right]), q, rfl⟩
    · have hb : ((y : Int) != 0) = true := by simp; omega
      have hb' : ((y : Int) == 0) = false := by simp; omega
      have hlt : x % y < y := Nat.mod_lt _ (by omega)
      have HG2 : Hid (Nat.gcd y (x % y) = Nat.gcd a b) := hide (by rw [Nat.gcd_comm, ← Nat.gcd_rec, Nat.gcd_comm]; exact unhide HG)
      go_wp2
      go_region
      all_goals
        go_wp2
        go_roundw
        case rel => exact ⟨y, x % y, q + 1, rfl, by go_num, unhide HG2, hy, by omega, rfl⟩
        case measure => simp only [intOf]; omega

theorem signed_any (b : Bool) (m : Nat) (w : World) (h : m ≤ 1000000000) :
    Calls Tryd.prog 28 #[.bool b, .int .u64 (m : Int)] w fun e w' => e = .returned (.int .i64 (if b = true then -(m : Int) else m)) ∧ w' = w := by
  cases b
  · go_enter Tryd.func28, Tryd.ntmps28
    go_wp2
    go_ret
    exact ⟨ret_int (by simp), rfl⟩
  · go_enter Tryd.func28, Tryd.ntmps28
    go_wp2
    go_ret
    exact ⟨ret_int (by simp), rfl⟩

end Go.Proofs.YtidafleegkofkaiDoor
