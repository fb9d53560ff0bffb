/-
  What the small functions of the fractions answer: signs, sizes and common divisors.
-/
import Derived.Test.YtimkinpbimangaaSpot
import Derived.WalkKit
import Derived.ProofKit
import Derived.OpenShut
import Derived.Deep.QuietTactic
import Derived.BigQuiet
import Derived.Test.YtimkinpbimangaaFMath
namespace Go.Proofs.Ytimkinpbimangaa
open Go.ChangeShapes Go.WideShapes Go.ChangeAt Go.RowKit
set_option linter.unusedVariables false

theorem low_any (n : Int) (w : World) (h1 : -9223372036854775808 ≤ n) (h2 : n ≤ 9223372036854775807) :
    Calls Try.prog 70 #[.int .i64 n] w fun e w' => e = .returned (.int .i64 (-(n.natAbs : Int))) ∧ w' = w := by
  by_cases hn : 0 < n
  · go_enter Try.func70, Try.ntmps70
    go_wp2
    go_ret
    exact ⟨ret_int (by omega), rfl⟩
  · go_enter Try.func70, Try.ntmps70
    go_wp2
    go_ret
    exact ⟨ret_int (by omega), rfl⟩

set_option maxHeartbeats 400000 in
theorem fgcd_any (a b : Int) (w : World) (ha1 : -9223372036854775808 ≤ a) (ha2 : a ≤ 9223372036854775807) (hb1 : -9223372036854775808 ≤ b) (hb2 : b ≤ 9223372036854775807) :
    Calls Try.prog 71 #[.int .i64 a, .int .i64 b] w fun e w' => (∃ r : Int, e = .returned (.int .i64 r) ∧ r.natAbs = Nat.gcd a.natAbs b.natAbs ∧ (a ≤ 0 → b ≤ 0 → r ≤ 0) ∧ -9223372036854775808 ≤ r ∧ r ≤ 9223372036854775807) ∧ w' = w := by
  go_enter Try.func71, Try.ntmps71
  go_wp2
  go_loop [0, 1] (fun s t => ∃ x y : Int, s = .int .i64 x ∧ t = .int .i64 y ∧ Nat.gcd x.natAbs y.natAbs = Nat.gcd a.natAbs b.natAbs ∧ (a ≤ 0 → b ≤ 0 → x ≤ 0 ∧ y ≤ 0) ∧ -9223372036854775808 ≤ x ∧ x ≤ 9223372036854775807 ∧ -9223372036854775808 ≤ y ∧ y ≤ 9223372036854775807) (fun _ t => (intOf t).natAbs)
  case atStart => exact ⟨a, b, rfl, rfl, rfl, fun p q => ⟨p, q⟩, ha1, ha2, hb1, hb2⟩
  case round =>
    obtain ⟨x, y, rfl, rfl, hg, hs, hx1, hx2, hy1, hy2⟩ := hrel
    have HG := hide hg
    have HS := hide hs
    clear hg hs
    by_cases hy : y = 0
    · have hb : (y != 0) = false := by simp [hy]
      have hb' : (y == 0) = true := by simp [hy]
      have HY := hide hy
      clear hy
      go_wp2
      go_ret
      exact ⟨⟨x, rfl, by have := unhide HG; rw [unhide HY] at this; simpa using this, fun p q => (unhide HS p q).1, hx1, hx2⟩, rfl⟩
    · have hb : (y != 0) = true := by simp [hy]
      have hb' : (y == 0) = false := by simp [hy]
      have hbd := tmod_bd x y ⟨hx1, hx2⟩
      have hlt := tmod_lt x y hy
      have HG2 : Hid (Nat.gcd y.natAbs (x.tmod y).natAbs = Nat.gcd a.natAbs b.natAbs) := hide ((gcd_step x y).trans (unhide HG))
      have HS2 : Hid (a ≤ 0 → b ≤ 0 → y ≤ 0 ∧ x.tmod y ≤ 0) := hide (fun p q => ⟨(unhide HS p q).2, tmod_neg x y (unhide HS p q).1⟩)
      go_wp2
      go_round
      case rel => exact ⟨y, x.tmod y, rfl, rfl, unhide HG2, unhide HS2, hy1, hy2, hbd.1, hbd.2⟩
      case measure => simp only [intOf]; exact hlt

theorem signed_any (b : Bool) (m : Nat) (w : World) (h : m ≤ 1000000000) :
    Calls Try.prog 86 #[.bool b, .int .u64 (m : Int)] w fun e w' => e = .returned (.int .i64 (if b = true then -(m : Int) else m)) ∧ w' = w := by
  cases b
  · go_enter Try.func86, Try.ntmps86
    go_wp2
    go_ret
    exact ⟨ret_int (by simp), rfl⟩
  · go_enter Try.func86, Try.ntmps86
    go_wp2
    go_ret
    exact ⟨ret_int (by simp), rfl⟩
end Go.Proofs.Ytimkinpbimangaa
