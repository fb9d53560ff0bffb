/-
  The laws' own choice out of a code, the source of choices, whatever the code.
-/
import Derived.Test.YtgocgcnpgmamiaaSou
import Derived.Test.YtgocgcnpgmamiaaOwn
namespace Go.Proofs.Ytgocgcnpgmamiaa
open Go.ChangeShapes Go.WideShapes Go.ChangeAt Go.RowKit
set_option linter.unusedVariables false
set_option linter.unusedSimpArgs false

set_option maxHeartbeats 1000000 in
theorem at_in (b off len cap : Nat) (i n x y : Int) (w : World) (hl0 : 1 ≤ len) (hl : len ≤ 1048576) (hi : 0 ≤ i ∧ i ≤ 100) (hn : 1 < n ∧ n ≤ 1000)
    (hx : w.cell? ⟨b, off + (i % (len : Int)).toNat, none⟩ = some (.int .u8 x)) (hy : w.cell? ⟨b, off + ((i + 1) % (len : Int)).toNat, none⟩ = some (.int .u8 y)) (bx : 0 ≤ x ∧ x ≤ 255) (by_ : 0 ≤ y ∧ y ≤ 255) :
    Calls Try.prog 12 #[.slice (some ⟨b, off, none⟩) len cap, .int .i64 i, .int .i64 n] w fun e w' => ∃ r : Int, e = .returned (.int .i64 r) ∧ 0 ≤ r ∧ r < n ∧ Below w.heap.size w w' := by
  have h1 : decide (n ≤ 1) = false := decide_eq_false (by omega)
  have h2 : ((len : Int) == 0) = false := by rw [beq_eq_false_iff_ne]; omega
  have h3 : (n == 0) = false := by rw [beq_eq_false_iff_ne]; omega
  have t1 : i.tmod (len : Int) = i % (len : Int) := Int.tmod_eq_emod_of_nonneg (by omega)
  have t2 : (i + 1).tmod (len : Int) = (i + 1) % (len : Int) := Int.tmod_eq_emod_of_nonneg (by omega)
  have e1 := Int.emod_nonneg i (b := (len : Int)) (by omega)
  have e2 := Int.emod_lt_of_pos i (b := (len : Int)) (by omega)
  have e3 := Int.emod_nonneg (i + 1) (b := (len : Int)) (by omega)
  have e4 := Int.emod_lt_of_pos (i + 1) (b := (len : Int)) (by omega)
  have q1 : i.tdiv (len : Int) = i / (len : Int) := Int.tdiv_eq_ediv_of_nonneg (by omega)
  have q2 := Int.ediv_nonneg (a := i) (b := (len : Int)) (by omega) (by omega)
  have q3 := Int.ediv_le_self (a := i) (len : Int) (by omega)
  go_enter Try.func12, Try.ntmps12
  go_wp2_with fail
  go_quiet (fail)
  go_wp2_with fail
  go_ret
  exact ⟨_, rfl, Int.emod_nonneg _ (by omega), Int.emod_lt_of_pos _ (by omega), ⟨rfl, rfl, rfl, Nat.le_refl _, fun _ _ => rfl⟩⟩

set_option maxHeartbeats 1000000 in
theorem at_any (a : Option Addr) (len cap B : Nat) (zs : List Int) (i n : Int) (w : World) (hc : Code B w a len cap zs) (hl : len ≤ 1048576) (hi : 0 ≤ i ∧ i ≤ 100) (hn : 1 ≤ n ∧ n ≤ 1000) :
    Calls Try.prog 12 #[.slice a len cap, .int .i64 i, .int .i64 n] w fun e w' => ∃ r : Int, e = .returned (.int .i64 r) ∧ 0 ≤ r ∧ r < n ∧ Below w.heap.size w w' := by
  by_cases h1 : n = 1
  · subst h1
    clear hc
    go_enter Try.func12, Try.ntmps12
    go_wp2_with fail
    go_ret
    exact ⟨0, rfl, by omega, by omega, Below.refl _ _⟩
  · rcases hc with rfl | ⟨b, off, rfl, _, _, h2, h3, h4, h5, h6⟩
    · have d1 : decide (n ≤ 1) = false := decide_eq_false (by omega)
      have d3 : (n == 0) = false := by rw [beq_eq_false_iff_ne]; omega
      have hw : IntKind.i64.wrap (i * 7) = i * 7 := wrap_i (by omega) (by omega)
      have t1 : (i * 7).tmod n = (i * 7) % n := Int.tmod_eq_emod_of_nonneg (by omega)
      go_enter Try.func12, Try.ntmps12
      go_wp2_with fail
      go_ret
      exact ⟨_, rfl, Int.emod_nonneg _ (by omega), Int.emod_lt_of_pos _ (by omega), Below.refl _ _⟩
    · by_cases h0 : len = 0
      · subst h0
        have d1 : decide (n ≤ 1) = false := decide_eq_false (by omega)
        have d3 : (n == 0) = false := by rw [beq_eq_false_iff_ne]; omega
        have hw : IntKind.i64.wrap (i * 7) = i * 7 := wrap_i (by omega) (by omega)
        have t1 : (i * 7).tmod n = (i * 7) % n := Int.tmod_eq_emod_of_nonneg (by omega)
        clear h5 h6 h4
        go_enter Try.func12, Try.ntmps12
        go_wp2_with fail
        go_ret
        exact ⟨_, rfl, Int.emod_nonneg _ (by omega), Int.emod_lt_of_pos _ (by omega), Below.refl _ _⟩
      · have e1 := Int.emod_nonneg i (b := (len : Int)) (by omega)
        have e2 := Int.emod_lt_of_pos i (b := (len : Int)) (by omega)
        have e3 := Int.emod_nonneg (i + 1) (b := (len : Int)) (by omega)
        have e4 := Int.emod_lt_of_pos (i + 1) (b := (len : Int)) (by omega)
        exact at_in b off len cap i n _ _ w (by omega) hl hi (by omega) (h5 (i % (len : Int)).toNat (by omega)) (h5 ((i + 1) % (len : Int)).toNat (by omega)) (h6 _) (h6 _)
end Go.Proofs.Ytgocgcnpgmamiaa
