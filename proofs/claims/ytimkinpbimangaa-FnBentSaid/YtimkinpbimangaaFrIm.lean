/-
  What the program's FracOf answers: the reduced fraction, or the code that says why there is none.
-/
import Derived.Test.YtimkinpbimangaaFrSj
import Derived.WalkSmall
namespace Go.Proofs.Ytimkinpbimangaa
open Go.ChangeShapes Go.WideShapes Go.ChangeAt Go.RowKit
set_option linter.unusedVariables false

theorem wrapu_in (m : Nat) (h : m ≤ 9223372036854775808) : IntKind.u64.wrap (m : Int) = (m : Int) := by
  simp only [IntKind.wrap, IntKind.bits, IntKind.signed]
  simp
  omega
set_option maxHeartbeats 400000 in
theorem io_zero (n : Int) (w : World) :
    Calls Try.prog 68 #[.int .i64 n, .int .i64 0] w fun e w' => e = .returned (.tuple #[.agg #[.int .i64 0, .int .i64 0], .int .i64 11]) ∧ Below w.heap.size w w' := by
  go_enter Try.func68, Try.ntmps68
  go_wp2
  exact bodyPost_ret (v := .tuple #[.agg #[.int .i64 (0), .int .i64 (0)], .int .i64 11]) (by simp [results, Try.results68, go_sem]) rfl ⟨rfl, (Below.refl _ _).alloc (Nat.le_refl _) _⟩
set_option maxHeartbeats 400000 in
theorem io_over1 (n d : Int) (w : World) (hn1 : -9223372036854775808 ≤ n) (hn2 : n ≤ 9223372036854775807) (hd1 : -9223372036854775808 ≤ d) (hd2 : d ≤ 9223372036854775807) (hd : d ≠ 0) (G T B : Nat) (HG : Hid (Nat.gcd n.natAbs d.natAbs = G)) (hg : 1 ≤ G) (qT : (n.natAbs : Int) / (G : Int) = (T : Int)) (qB : (d.natAbs : Int) / (G : Int) = (B : Int)) (hT : T ≤ 9223372036854775808) (hB : B ≤ 9223372036854775808) (hf : 1000000000 < T) :
    Calls Try.prog 68 #[.int .i64 n, .int .i64 d] w fun e w' => e = .returned (.tuple #[.agg #[.int .i64 (0), .int .i64 (0)], .int .i64 12]) ∧ Below w.heap.size w w' := by
  have wT := wrapu_in T hT
  have wB := wrapu_in B hB
  have hdz : (d == 0) = false := by simp [hd]
  have hg0 : ((G : Int) == 0) = false := by simp; omega
  go_enter Try.func68, Try.ntmps68
  go_wp2_with fail
  refine (mag_any _ _ hn1 hn2).mono ?_
  rintro e w1 ⟨rfl, rfl⟩
  go_wp2_with fail
  refine (mag_any _ _ hd1 hd2).mono ?_
  rintro e w1 ⟨rfl, rfl⟩
  go_wp2_with fail
  refine (com_any _ _ _ (by omega) (by omega)).mono ?_
  rintro e w1 ⟨rfl, q, rfl⟩
  rw [unhide HG]
  go_wp2_with fail
  go_quiet (fail)
  go_wp2
  exact bodyPost_ret (v := .tuple #[.agg #[.int .i64 (0), .int .i64 (0)], .int .i64 12]) (by simp [results, Try.results68, go_sem]) rfl ⟨rfl, ((below_drewN ((Below.refl _ _).alloc (Nat.le_refl _) _) _).setCell (by simp) _).setCell (by simp) _⟩
set_option maxHeartbeats 400000 in
theorem io_over2 (n d : Int) (w : World) (hn1 : -9223372036854775808 ≤ n) (hn2 : n ≤ 9223372036854775807) (hd1 : -9223372036854775808 ≤ d) (hd2 : d ≤ 9223372036854775807) (hd : d ≠ 0) (G T B : Nat) (HG : Hid (Nat.gcd n.natAbs d.natAbs = G)) (hg : 1 ≤ G) (qT : (n.natAbs : Int) / (G : Int) = (T : Int)) (qB : (d.natAbs : Int) / (G : Int) = (B : Int)) (hT : T ≤ 9223372036854775808) (hB : B ≤ 9223372036854775808) (hf1 : T ≤ 1000000000) (hf2 : 1000000000 < B) :
    Calls Try.prog 68 #[.int .i64 n, .int .i64 d] w fun e w' => e = .returned (.tuple #[.agg #[.int .i64 (0), .int .i64 (0)], .int .i64 12]) ∧ Below w.heap.size w w' := by
  have wT := wrapu_in T hT
  have wB := wrapu_in B hB
  have hdz : (d == 0) = false := by simp [hd]
  have hg0 : ((G : Int) == 0) = false := by simp; omega
  go_enter Try.func68, Try.ntmps68
  go_wp2_with fail
  refine (mag_any _ _ hn1 hn2).mono ?_
  rintro e w1 ⟨rfl, rfl⟩
  go_wp2_with fail
  refine (mag_any _ _ hd1 hd2).mono ?_
  rintro e w1 ⟨rfl, rfl⟩
  go_wp2_with fail
  refine (com_any _ _ _ (by omega) (by omega)).mono ?_
  rintro e w1 ⟨rfl, q, rfl⟩
  rw [unhide HG]
  go_wp2_with fail
  go_quiet (fail)
  go_wp2
  exact bodyPost_ret (v := .tuple #[.agg #[.int .i64 (0), .int .i64 (0)], .int .i64 12]) (by simp [results, Try.results68, go_sem]) rfl ⟨rfl, ((below_drewN ((Below.refl _ _).alloc (Nat.le_refl _) _) _).setCell (by simp) _).setCell (by simp) _⟩
set_option maxHeartbeats 400000 in
theorem io_tt (n d : Int) (w : World) (hn1 : -9223372036854775808 ≤ n) (hn2 : n ≤ 9223372036854775807) (hd1 : -9223372036854775808 ≤ d) (hd2 : d ≤ 9223372036854775807) (hd : d ≠ 0) (G T B : Nat) (HG : Hid (Nat.gcd n.natAbs d.natAbs = G)) (hg : 1 ≤ G) (qT : (n.natAbs : Int) / (G : Int) = (T : Int)) (qB : (d.natAbs : Int) / (G : Int) = (B : Int)) (hT : T ≤ 9223372036854775808) (hB : B ≤ 9223372036854775808) (hf1 : T ≤ 1000000000) (hf2 : B ≤ 1000000000) (e1 : decide (n < 0) = true) (e2 : decide (d < 0) = true) :
    Calls Try.prog 68 #[.int .i64 n, .int .i64 d] w fun e w' => e = .returned (.tuple #[.agg #[.int .i64 ((T : Int)), .int .i64 ((B : Int))], .int .i64 0]) ∧ Below w.heap.size w w' := by
  have wT := wrapu_in T hT
  have wB := wrapu_in B hB
  have hdz : (d == 0) = false := by simp [hd]
  have hg0 : ((G : Int) == 0) = false := by simp; omega
  go_enter Try.func68, Try.ntmps68
  go_wp2_with fail
  refine (mag_any _ _ hn1 hn2).mono ?_
  rintro e w1 ⟨rfl, rfl⟩
  go_wp2_with fail
  refine (mag_any _ _ hd1 hd2).mono ?_
  rintro e w1 ⟨rfl, rfl⟩
  go_wp2_with fail
  refine (com_any _ _ _ (by omega) (by omega)).mono ?_
  rintro e w1 ⟨rfl, q, rfl⟩
  rw [unhide HG]
  go_wp2_with fail
  go_quiet (fail)
  go_wp2_with fail
  refine (signed_any false T _ hf1).mono ?_
  rintro e w1 ⟨rfl, rfl⟩
  go_wp2
  exact bodyPost_ret (v := .tuple #[.agg #[.int .i64 ((T : Int)), .int .i64 ((B : Int))], .int .i64 0]) (by simp [results, Try.results68, go_sem]) rfl ⟨rfl, ((below_drewN ((Below.refl _ _).alloc (Nat.le_refl _) _) _).setCell (by simp) _).setCell (by simp) _⟩
set_option maxHeartbeats 400000 in
theorem io_tf (n d : Int) (w : World) (hn1 : -9223372036854775808 ≤ n) (hn2 : n ≤ 9223372036854775807) (hd1 : -9223372036854775808 ≤ d) (hd2 : d ≤ 9223372036854775807) (hd : d ≠ 0) (G T B : Nat) (HG : Hid (Nat.gcd n.natAbs d.natAbs = G)) (hg : 1 ≤ G) (qT : (n.natAbs : Int) / (G : Int) = (T : Int)) (qB : (d.natAbs : Int) / (G : Int) = (B : Int)) (hT : T ≤ 9223372036854775808) (hB : B ≤ 9223372036854775808) (hf1 : T ≤ 1000000000) (hf2 : B ≤ 1000000000) (e1 : decide (n < 0) = true) (e2 : decide (d < 0) = false) :
    Calls Try.prog 68 #[.int .i64 n, .int .i64 d] w fun e w' => e = .returned (.tuple #[.agg #[.int .i64 (-(T : Int)), .int .i64 ((B : Int))], .int .i64 0]) ∧ Below w.heap.size w w' := by
  have wT := wrapu_in T hT
  have wB := wrapu_in B hB
  have hdz : (d == 0) = false := by simp [hd]
  have hg0 : ((G : Int) == 0) = false := by simp; omega
  go_enter Try.func68, Try.ntmps68
  go_wp2_with fail
  refine (mag_any _ _ hn1 hn2).mono ?_
  rintro e w1 ⟨rfl, rfl⟩
  go_wp2_with fail
  refine (mag_any _ _ hd1 hd2).mono ?_
  rintro e w1 ⟨rfl, rfl⟩
  go_wp2_with fail
  refine (com_any _ _ _ (by omega) (by omega)).mono ?_
  rintro e w1 ⟨rfl, q, rfl⟩
  rw [unhide HG]
  go_wp2_with fail
  go_quiet (fail)
  go_wp2_with fail
  refine (signed_any true T _ hf1).mono ?_
  rintro e w1 ⟨rfl, rfl⟩
  go_wp2
  exact bodyPost_ret (v := .tuple #[.agg #[.int .i64 (-(T : Int)), .int .i64 ((B : Int))], .int .i64 0]) (by simp [results, Try.results68, go_sem]) rfl ⟨rfl, ((below_drewN ((Below.refl _ _).alloc (Nat.le_refl _) _) _).setCell (by simp) _).setCell (by simp) _⟩
set_option maxHeartbeats 400000 in
theorem io_ft (n d : Int) (w : World) (hn1 : -9223372036854775808 ≤ n) (hn2 : n ≤ 9223372036854775807) (hd1 : -9223372036854775808 ≤ d) (hd2 : d ≤ 9223372036854775807) (hd : d ≠ 0) (G T B : Nat) (HG : Hid (Nat.gcd n.natAbs d.natAbs = G)) (hg : 1 ≤ G) (qT : (n.natAbs : Int) / (G : Int) = (T : Int)) (qB : (d.natAbs : Int) / (G : Int) = (B : Int)) (hT : T ≤ 9223372036854775808) (hB : B ≤ 9223372036854775808) (hf1 : T ≤ 1000000000) (hf2 : B ≤ 1000000000) (e1 : decide (n < 0) = false) (e2 : decide (d < 0) = true) :
    Calls Try.prog 68 #[.int .i64 n, .int .i64 d] w fun e w' => e = .returned (.tuple #[.agg #[.int .i64 (-(T : Int)), .int .i64 ((B : Int))], .int .i64 0]) ∧ Below w.heap.size w w' := by
  have wT := wrapu_in T hT
  have wB := wrapu_in B hB
  have hdz : (d == 0) = false := by simp [hd]
  have hg0 : ((G : Int) == 0) = false := by simp; omega
  go_enter Try.func68, Try.ntmps68
  go_wp2_with fail
  refine (mag_any _ _ hn1 hn2).mono ?_
  rintro e w1 ⟨rfl, rfl⟩
  go_wp2_with fail
  refine (mag_any _ _ hd1 hd2).mono ?_
  rintro e w1 ⟨rfl, rfl⟩
  go_wp2_with fail
  refine (com_any _ _ _ (by omega) (by omega)).mono ?_
  rintro e w1 ⟨rfl, q, rfl⟩
  rw [unhide HG]
  go_wp2_with fail
  go_quiet (fail)
  go_wp2_with fail
  refine (signed_any true T _ hf1).mono ?_
  rintro e w1 ⟨rfl, rfl⟩
  go_wp2
  exact bodyPost_ret (v := .tuple #[.agg #[.int .i64 (-(T : Int)), .int .i64 ((B : Int))], .int .i64 0]) (by simp [results, Try.results68, go_sem]) rfl ⟨rfl, ((below_drewN ((Below.refl _ _).alloc (Nat.le_refl _) _) _).setCell (by simp) _).setCell (by simp) _⟩
set_option maxHeartbeats 400000 in
theorem io_ff (n d : Int) (w : World) (hn1 : -9223372036854775808 ≤ n) (hn2 : n ≤ 9223372036854775807) (hd1 : -9223372036854775808 ≤ d) (hd2 : d ≤ 9223372036854775807) (hd : d ≠ 0) (G T B : Nat) (HG : Hid (Nat.gcd n.natAbs d.natAbs = G)) (hg : 1 ≤ G) (qT : (n.natAbs : Int) / (G : Int) = (T : Int)) (qB : (d.natAbs : Int) / (G : Int) = (B : Int)) (hT : T ≤ 9223372036854775808) (hB : B ≤ 9223372036854775808) (hf1 : T ≤ 1000000000) (hf2 : B ≤ 1000000000) (e1 : decide (n < 0) = false) (e2 : decide (d < 0) = false) :
    Calls Try.prog 68 #[.int .i64 n, .int .i64 d] w fun e w' => e = .returned (.tuple #[.agg #[.int .i64 ((T : Int)), .int .i64 ((B : Int))], .int .i64 0]) ∧ Below w.heap.size w w' := by
  have wT := wrapu_in T hT
  have wB := wrapu_in B hB
  have hdz : (d == 0) = false := by simp [hd]
  have hg0 : ((G : Int) == 0) = false := by simp; omega
  go_enter Try.func68, Try.ntmps68
  go_wp2_with fail
  refine (mag_any _ _ hn1 hn2).mono ?_
  rintro e w1 ⟨rfl, rfl⟩
  go_wp2_with fail
  refine (mag_any _ _ hd1 hd2).mono ?_
  rintro e w1 ⟨rfl, rfl⟩
  go_wp2_with fail
  refine (com_any _ _ _ (by omega) (by omega)).mono ?_
  rintro e w1 ⟨rfl, q, rfl⟩
  rw [unhide HG]
  go_wp2_with fail
  go_quiet (fail)
  go_wp2_with fail
  refine (signed_any false T _ hf1).mono ?_
  rintro e w1 ⟨rfl, rfl⟩
  go_wp2
  exact bodyPost_ret (v := .tuple #[.agg #[.int .i64 ((T : Int)), .int .i64 ((B : Int))], .int .i64 0]) (by simp [results, Try.results68, go_sem]) rfl ⟨rfl, ((below_drewN ((Below.refl _ _).alloc (Nat.le_refl _) _) _).setCell (by simp) _).setCell (by simp) _⟩

theorem implOf_any (n d : Int) (w : World) (hn1 : -9223372036854775808 ≤ n) (hn2 : n ≤ 9223372036854775807) (hd1 : -9223372036854775808 ≤ d) (hd2 : d ≤ 9223372036854775807) :
    Calls Try.prog 68 #[.int .i64 n, .int .i64 d] w fun e w' => e = .returned (frAns n d) ∧ Below w.heap.size w w' := by
  by_cases hd : d = 0
  · subst hd
    rw [ans_zero]
    exact io_zero n w
  have hg := gcd_pos n d hd
  have qT : (n.natAbs : Int) / (Nat.gcd n.natAbs d.natAbs : Int) = (frTop n d : Int) := rfl
  have qB : (d.natAbs : Int) / (Nat.gcd n.natAbs d.natAbs : Int) = (frBot n d : Int) := rfl
  have hT : frTop n d ≤ 9223372036854775808 := Nat.le_trans (top_le n d) (by omega)
  have hB : frBot n d ≤ 9223372036854775808 := Nat.le_trans (bot_le n d) (by omega)
  by_cases f1 : 1000000000 < frTop n d
  · rw [ans_over n d hd (Or.inl f1)]
    exact io_over1 n d w hn1 hn2 hd1 hd2 hd _ _ _ (hide rfl) hg qT qB hT hB f1
  by_cases f2 : 1000000000 < frBot n d
  · rw [ans_over n d hd (Or.inr f2)]
    exact io_over2 n d w hn1 hn2 hd1 hd2 hd _ _ _ (hide rfl) hg qT qB hT hB (Nat.le_of_not_lt f1) f2
  have g1 := Nat.le_of_not_lt f1
  have g2 := Nat.le_of_not_lt f2
  rcases signs n d with ⟨e1, e2, hs⟩ | ⟨e1, e2, hs⟩ | ⟨e1, e2, hs⟩ | ⟨e1, e2, hs⟩
  · rw [ans_fits n d hd g1 g2 (frTop n d : Int) (by rw [if_pos hs])]
    exact io_tt n d w hn1 hn2 hd1 hd2 hd _ _ _ (hide rfl) hg qT qB hT hB g1 g2 e1 e2
  · rw [ans_fits n d hd g1 g2 (frTop n d : Int) (by rw [if_pos hs])]
    exact io_ff n d w hn1 hn2 hd1 hd2 hd _ _ _ (hide rfl) hg qT qB hT hB g1 g2 e1 e2
  · rw [ans_fits n d hd g1 g2 (-(frTop n d : Int)) (by rw [if_neg hs])]
    exact io_tf n d w hn1 hn2 hd1 hd2 hd _ _ _ (hide rfl) hg qT qB hT hB g1 g2 e1 e2
  · rw [ans_fits n d hd g1 g2 (-(frTop n d : Int)) (by rw [if_neg hs])]
    exact io_ft n d w hn1 hn2 hd1 hd2 hd _ _ _ (hide rfl) hg qT qB hT hB g1 g2 e1 e2
end Go.Proofs.Ytimkinpbimangaa
