/-
  The laws' own choice out of a code: the same whenever it is asked.
-/
import Derived.Test.YtmhdodecofpchaaAtD
namespace Go.Proofs.Ytmhdodecofpchaa
open Go.ChangeShapes Go.WideShapes Go.ChangeAt Go.RowKit
set_option linter.unusedVariables false
set_option linter.unusedSimpArgs false

set_option maxHeartbeats 1000000 in
theorem atS_in (b off len cap : Nat) (i n x y : Int) (w : World) (hl0 : 1 ≤ len) (hl : len ≤ 1048576) (hi : 0 ≤ i ∧ i ≤ 100) (hn : 1 < n ∧ n ≤ 1000)
    (hx : w.cell? ⟨b, off + (i % (len : Int)).toNat, none⟩ = some (.int .u8 x)) (hy : w.cell? ⟨b, off + ((i + 1) % (len : Int)).toNat, none⟩ = some (.int .u8 y)) (bx : 0 ≤ x ∧ x ≤ 255) (by_ : 0 ≤ y ∧ y ≤ 255) :
    Calls Try.prog 9 #[.slice (some ⟨b, off, none⟩) len cap, .int .i64 i, .int .i64 n] w fun e w' => e = .returned (.int .i64 ((x * 31 + y + i / (len : Int)) % n)) ∧ Same w w' := by
  have h1 : decide (n ≤ 1) = false := decide_eq_false (by omega)
  have h2 : ((len : Int) == 0) = false := by rw [beq_eq_false_iff_ne]; omega
  have h3 : (n == 0) = false := by rw [beq_eq_false_iff_ne]; omega
  have t1 : i.tmod (len : Int) = i % (len : Int) := Int.tmod_eq_emod_of_nonneg (by omega)
  have t2 : (i + 1).tmod (len : Int) = (i + 1) % (len : Int) := Int.tmod_eq_emod_of_nonneg (by omega)
  have e1 := Int.emod_nonneg i (b := (len : Int)) (by omega)
  have e2 := Int.emod_lt_of_pos i (b := (len : Int)) (by omega)
  have e3 := Int.emod_nonneg (i + 1) (b := (len : Int)) (by omega)
  have e4 := Int.emod_lt_of_pos (i + 1) (b := (len : Int)) (by omega)
  have q1 : i.tdiv (len : Int) = i / (len : Int) := Int.tdiv_eq_ediv_of_nonneg (by omega)
  have q2 := Int.ediv_nonneg (a := i) (b := (len : Int)) (by omega) (by omega)
  have q3 := Int.ediv_le_self (a := i) (len : Int) (by omega)
  go_enter Try.func9, Try.ntmps9
  go_wp2_with fail
  go_quiet (fail)
  go_wp2_with fail
  go_ret
  exact ⟨rfl, ⟨rfl, rfl, rfl, rfl⟩⟩

/-- the choice: a number from 0 to n - 1 that the code alone says -/
theorem atS (a : Option Addr) (len cap B : Nat) (zs : List Int) (i n : Int) (w : World) (hc : Code B w a len cap zs) (hl : len ≤ 1048576) (hi : 0 ≤ i ∧ i ≤ 100) (hn : 1 < n ∧ n ≤ 1000) :
    ∃ r : Int, 0 ≤ r ∧ r < n ∧ ∀ W : World, Code B W a len cap zs → Calls Try.prog 9 #[.slice a len cap, .int .i64 i, .int .i64 n] W fun e w' => e = .returned (.int .i64 r) ∧ Same W w' := by
  by_cases h0 : len = 0
  · subst h0
    refine ⟨(i * 7) % n, Int.emod_nonneg _ (by omega), Int.emod_lt_of_pos _ (by omega), fun W _ => ?_⟩
    have d1 : decide (n ≤ 1) = false := decide_eq_false (by omega)
    have d3 : (n == 0) = false := by rw [beq_eq_false_iff_ne]; omega
    have hw : IntKind.i64.wrap (i * 7) = i * 7 := wrap_i (by omega) (by omega)
    have t1 : (i * 7).tmod n = (i * 7) % n := Int.tmod_eq_emod_of_nonneg (by omega)
    clear hc
    go_enter Try.func9, Try.ntmps9
    go_wp2_with fail
    go_ret
    exact ⟨rfl, Same.refl _⟩
  · refine ⟨(zs.getD (i % (len : Int)).toNat 0 * 31 + zs.getD ((i + 1) % (len : Int)).toNat 0 + i / (len : Int)) % n, Int.emod_nonneg _ (by omega), Int.emod_lt_of_pos _ (by omega), fun W hW => ?_⟩
    rcases hW with h | ⟨b, off, rfl, _, _, h2, h3, h4, h5, h6⟩
    · exact absurd h h0
    · have e1 := Int.emod_nonneg i (b := (len : Int)) (by omega)
      have e2 := Int.emod_lt_of_pos i (b := (len : Int)) (by omega)
      have e3 := Int.emod_nonneg (i + 1) (b := (len : Int)) (by omega)
      have e4 := Int.emod_lt_of_pos (i + 1) (b := (len : Int)) (by omega)
      exact atS_in b off len cap i n _ _ W (by omega) hl hi hn (h5 (i % (len : Int)).toNat (by omega)) (h5 ((i + 1) % (len : Int)).toNat (by omega)) (h6 _) (h6 _)
end Go.Proofs.Ytmhdodecofpchaa
