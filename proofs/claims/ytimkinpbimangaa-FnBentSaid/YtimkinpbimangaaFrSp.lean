/-
  What the model's FracOf answers: the reduced fraction, or the code that says why there is none.
-/
import Derived.Test.YtimkinpbimangaaFrLv
import Derived.Below
namespace Go.Proofs.Ytimkinpbimangaa
open Go.ChangeShapes Go.WideShapes Go.ChangeAt Go.RowKit
set_option linter.unusedVariables false

/-- the answer of FracOf -/
def frAns (n d : Int) : Value := .tuple #[.agg #[.int .i64 (frN n d), .int .i64 (frD n d)], .int .i64 (frCode n d)]

theorem ans_zero (n : Int) : frAns n 0 = .tuple #[.agg #[.int .i64 0, .int .i64 0], .int .i64 11] := by
  simp [frAns, frN, frD, frCode]
theorem ans_over (n d : Int) (h : d ≠ 0) (hf : 1000000000 < frTop n d ∨ 1000000000 < frBot n d) : frAns n d = .tuple #[.agg #[.int .i64 0, .int .i64 0], .int .i64 12] := by
  have : frFits n d = false := decide_eq_false (by omega)
  simp [frAns, frN, frD, frCode, h, this]
theorem ans_fits (n d : Int) (h : d ≠ 0) (h1 : frTop n d ≤ 1000000000) (h2 : frBot n d ≤ 1000000000) (x : Int) (hx : x = if (n < 0) ↔ (d < 0) then (frTop n d : Int) else -(frTop n d : Int)) :
    frAns n d = .tuple #[.agg #[.int .i64 x, .int .i64 (frBot n d : Int)], .int .i64 0] := by
  have : frFits n d = true := decide_eq_true ⟨h1, h2⟩
  subst hx
  simp [frAns, frN, frD, frCode, h, this]

theorem tdiv_negs (a g : Nat) : (-(a : Int)).tdiv (-(g : Int)) = ((a / g : Nat) : Int) := by
  rw [Int.neg_tdiv, Int.tdiv_neg, Int.neg_neg]; rfl

set_option maxHeartbeats 400000 in
theorem so_zero (n : Int) (w : World) :
    Calls Try.prog 47 #[.int .i64 n, .int .i64 0] w fun e w' => e = .returned (.tuple #[.agg #[.int .i64 0, .int .i64 0], .int .i64 11]) ∧ Below w.heap.size w w' := by
  go_enter Try.func47, Try.ntmps47
  go_wp2
  exact bodyPost_ret (v := .tuple #[.agg #[.int .i64 (0), .int .i64 (0)], .int .i64 11]) (by simp [results, Try.results47, go_sem]) rfl ⟨rfl, (Below.refl _ _).alloc (Nat.le_refl _) _⟩
set_option maxHeartbeats 400000 in
theorem so_one_over1 (n d : Int) (w : World) (hn1 : -9223372036854775808 ≤ n) (hn2 : n ≤ 9223372036854775807) (hd1 : -9223372036854775808 ≤ d) (hd2 : d ≤ 9223372036854775807) (hd : d ≠ 0) (H1 : Hid (Nat.gcd n.natAbs d.natAbs = 1)) (hf : 1000000000 < n.natAbs) :
    Calls Try.prog 47 #[.int .i64 n, .int .i64 d] w fun e w' => e = .returned (.tuple #[.agg #[.int .i64 (0), .int .i64 (0)], .int .i64 12]) ∧ Below w.heap.size w w' := by
  have hdz : (d == 0) = false := by simp [hd]
  go_enter Try.func47, Try.ntmps47
  go_wp2_with fail
  refine (low_any _ _ hn1 hn2).mono ?_
  rintro e w1 ⟨rfl, rfl⟩
  go_wp2_with fail
  refine (low_any _ _ hd1 hd2).mono ?_
  rintro e w1 ⟨rfl, rfl⟩
  go_wp2_with fail
  refine (fgcd_any _ _ _ (by omega) (by omega) (by omega) (by omega)).mono ?_
  rintro e w1 ⟨⟨r, rfl, hr, hs, _, _⟩, rfl⟩
  have hr' : r = -1 := by
    have := unhide H1
    have hs' := hs (by omega) (by omega)
    simp only [Int.natAbs_neg, Int.natAbs_natCast] at hr
    omega
  clear hr hs
  subst hr'
  go_wp2
  exact bodyPost_ret (v := .tuple #[.agg #[.int .i64 (0), .int .i64 (0)], .int .i64 12]) (by simp [results, Try.results47, go_sem]) rfl ⟨rfl, (Below.refl _ _).alloc (Nat.le_refl _) _⟩
set_option maxHeartbeats 400000 in
theorem so_one_over2 (n d : Int) (w : World) (hn1 : -9223372036854775808 ≤ n) (hn2 : n ≤ 9223372036854775807) (hd1 : -9223372036854775808 ≤ d) (hd2 : d ≤ 9223372036854775807) (hd : d ≠ 0) (H1 : Hid (Nat.gcd n.natAbs d.natAbs = 1)) (hf1 : n.natAbs ≤ 1000000000) (hf2 : 1000000000 < d.natAbs) :
    Calls Try.prog 47 #[.int .i64 n, .int .i64 d] w fun e w' => e = .returned (.tuple #[.agg #[.int .i64 (0), .int .i64 (0)], .int .i64 12]) ∧ Below w.heap.size w w' := by
  have hdz : (d == 0) = false := by simp [hd]
  go_enter Try.func47, Try.ntmps47
  go_wp2_with fail
  refine (low_any _ _ hn1 hn2).mono ?_
  rintro e w1 ⟨rfl, rfl⟩
  go_wp2_with fail
  refine (low_any _ _ hd1 hd2).mono ?_
  rintro e w1 ⟨rfl, rfl⟩
  go_wp2_with fail
  refine (fgcd_any _ _ _ (by omega) (by omega) (by omega) (by omega)).mono ?_
  rintro e w1 ⟨⟨r, rfl, hr, hs, _, _⟩, rfl⟩
  have hr' : r = -1 := by
    have := unhide H1
    have hs' := hs (by omega) (by omega)
    simp only [Int.natAbs_neg, Int.natAbs_natCast] at hr
    omega
  clear hr hs
  subst hr'
  go_wp2
  exact bodyPost_ret (v := .tuple #[.agg #[.int .i64 (0), .int .i64 (0)], .int .i64 12]) (by simp [results, Try.results47, go_sem]) rfl ⟨rfl, (Below.refl _ _).alloc (Nat.le_refl _) _⟩
set_option maxHeartbeats 400000 in
theorem so_many_over1 (n d : Int) (w : World) (hn1 : -9223372036854775808 ≤ n) (hn2 : n ≤ 9223372036854775807) (hd1 : -9223372036854775808 ≤ d) (hd2 : d ≤ 9223372036854775807) (hd : d ≠ 0) (G T B : Nat) (HG : Hid (Nat.gcd n.natAbs d.natAbs = G)) (hg : 2 ≤ G) (hgA : G ≤ 9223372036854775808) (qT : (-(n.natAbs : Int)).tdiv (-(G : Int)) = (T : Int)) (qB : (-(d.natAbs : Int)).tdiv (-(G : Int)) = (B : Int)) (hT : T ≤ 4611686018427387904) (hB : B ≤ 4611686018427387904) (hf : 1000000000 < T) :
    Calls Try.prog 47 #[.int .i64 n, .int .i64 d] w fun e w' => e = .returned (.tuple #[.agg #[.int .i64 (0), .int .i64 (0)], .int .i64 12]) ∧ Below w.heap.size w w' := by
  have wT : wrap64 (T : Int) = (T : Int) := IntWalk.wrap64_in _ ⟨by omega, by omega⟩
  have wB : wrap64 (B : Int) = (B : Int) := IntWalk.wrap64_in _ ⟨by omega, by omega⟩
  have hg1 : ((-(G : Int)) == -1) = false := by simp; omega
  have hg0 : ((-(G : Int)) == 0) = false := by simp; omega
  have hdz : (d == 0) = false := by simp [hd]
  go_enter Try.func47, Try.ntmps47
  go_wp2_with fail
  refine (low_any _ _ hn1 hn2).mono ?_
  rintro e w1 ⟨rfl, rfl⟩
  go_wp2_with fail
  refine (low_any _ _ hd1 hd2).mono ?_
  rintro e w1 ⟨rfl, rfl⟩
  go_wp2_with fail
  refine (fgcd_any _ _ _ (by omega) (by omega) (by omega) (by omega)).mono ?_
  rintro e w1 ⟨⟨r, rfl, hr, hs, _, _⟩, rfl⟩
  have hr' : r = -(G : Int) := by
    have hs' := hs (by omega) (by omega)
    simp only [Int.natAbs_neg, Int.natAbs_natCast] at hr
    rw [unhide HG] at hr
    omega
  clear hr hs
  subst hr'
  go_wp2
  exact bodyPost_ret (v := .tuple #[.agg #[.int .i64 (0), .int .i64 (0)], .int .i64 12]) (by simp [results, Try.results47, go_sem]) rfl ⟨rfl, (Below.refl _ _).alloc (Nat.le_refl _) _⟩
set_option maxHeartbeats 400000 in
theorem so_many_over2 (n d : Int) (w : World) (hn1 : -9223372036854775808 ≤ n) (hn2 : n ≤ 9223372036854775807) (hd1 : -9223372036854775808 ≤ d) (hd2 : d ≤ 9223372036854775807) (hd : d ≠ 0) (G T B : Nat) (HG : Hid (Nat.gcd n.natAbs d.natAbs = G)) (hg : 2 ≤ G) (hgA : G ≤ 9223372036854775808) (qT : (-(n.natAbs : Int)).tdiv (-(G : Int)) = (T : Int)) (qB : (-(d.natAbs : Int)).tdiv (-(G : Int)) = (B : Int)) (hT : T ≤ 4611686018427387904) (hB : B ≤ 4611686018427387904) (hf1 : T ≤ 1000000000) (hf2 : 1000000000 < B) :
    Calls Try.prog 47 #[.int .i64 n, .int .i64 d] w fun e w' => e = .returned (.tuple #[.agg #[.int .i64 (0), .int .i64 (0)], .int .i64 12]) ∧ Below w.heap.size w w' := by
  have wT : wrap64 (T : Int) = (T : Int) := IntWalk.wrap64_in _ ⟨by omega, by omega⟩
  have wB : wrap64 (B : Int) = (B : Int) := IntWalk.wrap64_in _ ⟨by omega, by omega⟩
  have hg1 : ((-(G : Int)) == -1) = false := by simp; omega
  have hg0 : ((-(G : Int)) == 0) = false := by simp; omega
  have hdz : (d == 0) = false := by simp [hd]
  go_enter Try.func47, Try.ntmps47
  go_wp2_with fail
  refine (low_any _ _ hn1 hn2).mono ?_
  rintro e w1 ⟨rfl, rfl⟩
  go_wp2_with fail
  refine (low_any _ _ hd1 hd2).mono ?_
  rintro e w1 ⟨rfl, rfl⟩
  go_wp2_with fail
  refine (fgcd_any _ _ _ (by omega) (by omega) (by omega) (by omega)).mono ?_
  rintro e w1 ⟨⟨r, rfl, hr, hs, _, _⟩, rfl⟩
  have hr' : r = -(G : Int) := by
    have hs' := hs (by omega) (by omega)
    simp only [Int.natAbs_neg, Int.natAbs_natCast] at hr
    rw [unhide HG] at hr
    omega
  clear hr hs
  subst hr'
  go_wp2
  exact bodyPost_ret (v := .tuple #[.agg #[.int .i64 (0), .int .i64 (0)], .int .i64 12]) (by simp [results, Try.results47, go_sem]) rfl ⟨rfl, (Below.refl _ _).alloc (Nat.le_refl _) _⟩
set_option maxHeartbeats 400000 in
theorem so_one_tt (n d : Int) (w : World) (hn1 : -9223372036854775808 ≤ n) (hn2 : n ≤ 9223372036854775807) (hd1 : -9223372036854775808 ≤ d) (hd2 : d ≤ 9223372036854775807) (hd : d ≠ 0) (H1 : Hid (Nat.gcd n.natAbs d.natAbs = 1)) (hf1 : n.natAbs ≤ 1000000000) (hf2 : d.natAbs ≤ 1000000000) (e1 : decide (n < 0) = true) (e2 : decide (d < 0) = true) :
    Calls Try.prog 47 #[.int .i64 n, .int .i64 d] w fun e w' => e = .returned (.tuple #[.agg #[.int .i64 ((n.natAbs : Int)), .int .i64 ((d.natAbs : Int))], .int .i64 0]) ∧ Below w.heap.size w w' := by
  have hdz : (d == 0) = false := by simp [hd]
  go_enter Try.func47, Try.ntmps47
  go_wp2_with fail
  refine (low_any _ _ hn1 hn2).mono ?_
  rintro e w1 ⟨rfl, rfl⟩
  go_wp2_with fail
  refine (low_any _ _ hd1 hd2).mono ?_
  rintro e w1 ⟨rfl, rfl⟩
  go_wp2_with fail
  refine (fgcd_any _ _ _ (by omega) (by omega) (by omega) (by omega)).mono ?_
  rintro e w1 ⟨⟨r, rfl, hr, hs, _, _⟩, rfl⟩
  have hr' : r = -1 := by
    have := unhide H1
    have hs' := hs (by omega) (by omega)
    simp only [Int.natAbs_neg, Int.natAbs_natCast] at hr
    omega
  clear hr hs
  subst hr'
  go_wp2
  exact bodyPost_ret (v := .tuple #[.agg #[.int .i64 ((n.natAbs : Int)), .int .i64 ((d.natAbs : Int))], .int .i64 0]) (by simp [results, Try.results47, go_sem]) rfl ⟨rfl, (Below.refl _ _).alloc (Nat.le_refl _) _⟩
set_option maxHeartbeats 400000 in
theorem so_many_tt (n d : Int) (w : World) (hn1 : -9223372036854775808 ≤ n) (hn2 : n ≤ 9223372036854775807) (hd1 : -9223372036854775808 ≤ d) (hd2 : d ≤ 9223372036854775807) (hd : d ≠ 0) (G T B : Nat) (HG : Hid (Nat.gcd n.natAbs d.natAbs = G)) (hg : 2 ≤ G) (hgA : G ≤ 9223372036854775808) (qT : (-(n.natAbs : Int)).tdiv (-(G : Int)) = (T : Int)) (qB : (-(d.natAbs : Int)).tdiv (-(G : Int)) = (B : Int)) (hT : T ≤ 4611686018427387904) (hB : B ≤ 4611686018427387904) (hf1 : T ≤ 1000000000) (hf2 : B ≤ 1000000000) (e1 : decide (n < 0) = true) (e2 : decide (d < 0) = true) :
    Calls Try.prog 47 #[.int .i64 n, .int .i64 d] w fun e w' => e = .returned (.tuple #[.agg #[.int .i64 ((T : Int)), .int .i64 ((B : Int))], .int .i64 0]) ∧ Below w.heap.size w w' := by
  have wT : wrap64 (T : Int) = (T : Int) := IntWalk.wrap64_in _ ⟨by omega, by omega⟩
  have wB : wrap64 (B : Int) = (B : Int) := IntWalk.wrap64_in _ ⟨by omega, by omega⟩
  have hg1 : ((-(G : Int)) == -1) = false := by simp; omega
  have hg0 : ((-(G : Int)) == 0) = false := by simp; omega
  have hdz : (d == 0) = false := by simp [hd]
  go_enter Try.func47, Try.ntmps47
  go_wp2_with fail
  refine (low_any _ _ hn1 hn2).mono ?_
  rintro e w1 ⟨rfl, rfl⟩
  go_wp2_with fail
  refine (low_any _ _ hd1 hd2).mono ?_
  rintro e w1 ⟨rfl, rfl⟩
  go_wp2_with fail
  refine (fgcd_any _ _ _ (by omega) (by omega) (by omega) (by omega)).mono ?_
  rintro e w1 ⟨⟨r, rfl, hr, hs, _, _⟩, rfl⟩
  have hr' : r = -(G : Int) := by
    have hs' := hs (by omega) (by omega)
    simp only [Int.natAbs_neg, Int.natAbs_natCast] at hr
    rw [unhide HG] at hr
    omega
  clear hr hs
  subst hr'
  go_wp2
  exact bodyPost_ret (v := .tuple #[.agg #[.int .i64 ((T : Int)), .int .i64 ((B : Int))], .int .i64 0]) (by simp [results, Try.results47, go_sem]) rfl ⟨rfl, (Below.refl _ _).alloc (Nat.le_refl _) _⟩
set_option maxHeartbeats 400000 in
theorem so_one_tf (n d : Int) (w : World) (hn1 : -9223372036854775808 ≤ n) (hn2 : n ≤ 9223372036854775807) (hd1 : -9223372036854775808 ≤ d) (hd2 : d ≤ 9223372036854775807) (hd : d ≠ 0) (H1 : Hid (Nat.gcd n.natAbs d.natAbs = 1)) (hf1 : n.natAbs ≤ 1000000000) (hf2 : d.natAbs ≤ 1000000000) (e1 : decide (n < 0) = true) (e2 : decide (d < 0) = false) :
    Calls Try.prog 47 #[.int .i64 n, .int .i64 d] w fun e w' => e = .returned (.tuple #[.agg #[.int .i64 (-(n.natAbs : Int)), .int .i64 ((d.natAbs : Int))], .int .i64 0]) ∧ Below w.heap.size w w' := by
  have hdz : (d == 0) = false := by simp [hd]
  go_enter Try.func47, Try.ntmps47
  go_wp2_with fail
  refine (low_any _ _ hn1 hn2).mono ?_
  rintro e w1 ⟨rfl, rfl⟩
  go_wp2_with fail
  refine (low_any _ _ hd1 hd2).mono ?_
  rintro e w1 ⟨rfl, rfl⟩
  go_wp2_with fail
  refine (fgcd_any _ _ _ (by omega) (by omega) (by omega) (by omega)).mono ?_
  rintro e w1 ⟨⟨r, rfl, hr, hs, _, _⟩, rfl⟩
  have hr' : r = -1 := by
    have := unhide H1
    have hs' := hs (by omega) (by omega)
    simp only [Int.natAbs_neg, Int.natAbs_natCast] at hr
    omega
  clear hr hs
  subst hr'
  go_wp2
  exact bodyPost_ret (v := .tuple #[.agg #[.int .i64 (-(n.natAbs : Int)), .int .i64 ((d.natAbs : Int))], .int .i64 0]) (by simp [results, Try.results47, go_sem]) rfl ⟨rfl, (Below.refl _ _).alloc (Nat.le_refl _) _⟩
set_option maxHeartbeats 400000 in
theorem so_many_tf (n d : Int) (w : World) (hn1 : -9223372036854775808 ≤ n) (hn2 : n ≤ 9223372036854775807) (hd1 : -9223372036854775808 ≤ d) (hd2 : d ≤ 9223372036854775807) (hd : d ≠ 0) (G T B : Nat) (HG : Hid (Nat.gcd n.natAbs d.natAbs = G)) (hg : 2 ≤ G) (hgA : G ≤ 9223372036854775808) (qT : (-(n.natAbs : Int)).tdiv (-(G : Int)) = (T : Int)) (qB : (-(d.natAbs : Int)).tdiv (-(G : Int)) = (B : Int)) (hT : T ≤ 4611686018427387904) (hB : B ≤ 4611686018427387904) (hf1 : T ≤ 1000000000) (hf2 : B ≤ 1000000000) (e1 : decide (n < 0) = true) (e2 : decide (d < 0) = false) :
    Calls Try.prog 47 #[.int .i64 n, .int .i64 d] w fun e w' => e = .returned (.tuple #[.agg #[.int .i64 (-(T : Int)), .int .i64 ((B : Int))], .int .i64 0]) ∧ Below w.heap.size w w' := by
  have wT : wrap64 (T : Int) = (T : Int) := IntWalk.wrap64_in _ ⟨by omega, by omega⟩
  have wB : wrap64 (B : Int) = (B : Int) := IntWalk.wrap64_in _ ⟨by omega, by omega⟩
  have hg1 : ((-(G : Int)) == -1) = false := by simp; omega
  have hg0 : ((-(G : Int)) == 0) = false := by simp; omega
  have hdz : (d == 0) = false := by simp [hd]
  go_enter Try.func47, Try.ntmps47
  go_wp2_with fail
  refine (low_any _ _ hn1 hn2).mono ?_
  rintro e w1 ⟨rfl, rfl⟩
  go_wp2_with fail
  refine (low_any _ _ hd1 hd2).mono ?_
  rintro e w1 ⟨rfl, rfl⟩
  go_wp2_with fail
  refine (fgcd_any _ _ _ (by omega) (by omega) (by omega) (by omega)).mono ?_
  rintro e w1 ⟨⟨r, rfl, hr, hs, _, _⟩, rfl⟩
  have hr' : r = -(G : Int) := by
    have hs' := hs (by omega) (by omega)
    simp only [Int.natAbs_neg, Int.natAbs_natCast] at hr
    rw [unhide HG] at hr
    omega
  clear hr hs
  subst hr'
  go_wp2
  exact bodyPost_ret (v := .tuple #[.agg #[.int .i64 (-(T : Int)), .int .i64 ((B : Int))], .int .i64 0]) (by simp [results, Try.results47, go_sem]) rfl ⟨rfl, (Below.refl _ _).alloc (Nat.le_refl _) _⟩
set_option maxHeartbeats 400000 in
theorem so_one_ft (n d : Int) (w : World) (hn1 : -9223372036854775808 ≤ n) (hn2 : n ≤ 9223372036854775807) (hd1 : -9223372036854775808 ≤ d) (hd2 : d ≤ 9223372036854775807) (hd : d ≠ 0) (H1 : Hid (Nat.gcd n.natAbs d.natAbs = 1)) (hf1 : n.natAbs ≤ 1000000000) (hf2 : d.natAbs ≤ 1000000000) (e1 : decide (n < 0) = false) (e2 : decide (d < 0) = true) :
    Calls Try.prog 47 #[.int .i64 n, .int .i64 d] w fun e w' => e = .returned (.tuple #[.agg #[.int .i64 (-(n.natAbs : Int)), .int .i64 ((d.natAbs : Int))], .int .i64 0]) ∧ Below w.heap.size w w' := by
  have hdz : (d == 0) = false := by simp [hd]
  go_enter Try.func47, Try.ntmps47
  go_wp2_with fail
  refine (low_any _ _ hn1 hn2).mono ?_
  rintro e w1 ⟨rfl, rfl⟩
  go_wp2_with fail
  refine (low_any _ _ hd1 hd2).mono ?_
  rintro e w1 ⟨rfl, rfl⟩
  go_wp2_with fail
  refine (fgcd_any _ _ _ (by omega) (by omega) (by omega) (by omega)).mono ?_
  rintro e w1 ⟨⟨r, rfl, hr, hs, _, _⟩, rfl⟩
  have hr' : r = -1 := by
    have := unhide H1
    have hs' := hs (by omega) (by omega)
    simp only [Int.natAbs_neg, Int.natAbs_natCast] at hr
    omega
  clear hr hs
  subst hr'
  go_wp2
  exact bodyPost_ret (v := .tuple #[.agg #[.int .i64 (-(n.natAbs : Int)), .int .i64 ((d.natAbs : Int))], .int .i64 0]) (by simp [results, Try.results47, go_sem]) rfl ⟨rfl, (Below.refl _ _).alloc (Nat.le_refl _) _⟩
set_option maxHeartbeats 400000 in
theorem so_many_ft (n d : Int) (w : World) (hn1 : -9223372036854775808 ≤ n) (hn2 : n ≤ 9223372036854775807) (hd1 : -9223372036854775808 ≤ d) (hd2 : d ≤ 9223372036854775807) (hd : d ≠ 0) (G T B : Nat) (HG : Hid (Nat.gcd n.natAbs d.natAbs = G)) (hg : 2 ≤ G) (hgA : G ≤ 9223372036854775808) (qT : (-(n.natAbs : Int)).tdiv (-(G : Int)) = (T : Int)) (qB : (-(d.natAbs : Int)).tdiv (-(G : Int)) = (B : Int)) (hT : T ≤ 4611686018427387904) (hB : B ≤ 4611686018427387904) (hf1 : T ≤ 1000000000) (hf2 : B ≤ 1000000000) (e1 : decide (n < 0) = false) (e2 : decide (d < 0) = true) :
    Calls Try.prog 47 #[.int .i64 n, .int .i64 d] w fun e w' => e = .returned (.tuple #[.agg #[.int .i64 (-(T : Int)), .int .i64 ((B : Int))], .int .i64 0]) ∧ Below w.heap.size w w' := by
  have wT : wrap64 (T : Int) = (T : Int) := IntWalk.wrap64_in _ ⟨by omega, by omega⟩
  have wB : wrap64 (B : Int) = (B : Int) := IntWalk.wrap64_in _ ⟨by omega, by omega⟩
  have hg1 : ((-(G : Int)) == -1) = false := by simp; omega
  have hg0 : ((-(G : Int)) == 0) = false := by simp; omega
  have hdz : (d == 0) = false := by simp [hd]
  go_enter Try.func47, Try.ntmps47
  go_wp2_with fail
  refine (low_any _ _ hn1 hn2).mono ?_
  rintro e w1 ⟨rfl, rfl⟩
  go_wp2_with fail
  refine (low_any _ _ hd1 hd2).mono ?_
  rintro e w1 ⟨rfl, rfl⟩
  go_wp2_with fail
  refine (fgcd_any _ _ _ (by omega) (by omega) (by omega) (by omega)).mono ?_
  rintro e w1 ⟨⟨r, rfl, hr, hs, _, _⟩, rfl⟩
  have hr' : r = -(G : Int) := by
    have hs' := hs (by omega) (by omega)
    simp only [Int.natAbs_neg, Int.natAbs_natCast] at hr
    rw [unhide HG] at hr
    omega
  clear hr hs
  subst hr'
  go_wp2
  exact bodyPost_ret (v := .tuple #[.agg #[.int .i64 (-(T : Int)), .int .i64 ((B : Int))], .int .i64 0]) (by simp [results, Try.results47, go_sem]) rfl ⟨rfl, (Below.refl _ _).alloc (Nat.le_refl _) _⟩
set_option maxHeartbeats 400000 in
theorem so_one_ff (n d : Int) (w : World) (hn1 : -9223372036854775808 ≤ n) (hn2 : n ≤ 9223372036854775807) (hd1 : -9223372036854775808 ≤ d) (hd2 : d ≤ 9223372036854775807) (hd : d ≠ 0) (H1 : Hid (Nat.gcd n.natAbs d.natAbs = 1)) (hf1 : n.natAbs ≤ 1000000000) (hf2 : d.natAbs ≤ 1000000000) (e1 : decide (n < 0) = false) (e2 : decide (d < 0) = false) :
    Calls Try.prog 47 #[.int .i64 n, .int .i64 d] w fun e w' => e = .returned (.tuple #[.agg #[.int .i64 ((n.natAbs : Int)), .int .i64 ((d.natAbs : Int))], .int .i64 0]) ∧ Below w.heap.size w w' := by
  have hdz : (d == 0) = false := by simp [hd]
  go_enter Try.func47, Try.ntmps47
  go_wp2_with fail
  refine (low_any _ _ hn1 hn2).mono ?_
  rintro e w1 ⟨rfl, rfl⟩
  go_wp2_with fail
  refine (low_any _ _ hd1 hd2).mono ?_
  rintro e w1 ⟨rfl, rfl⟩
  go_wp2_with fail
  refine (fgcd_any _ _ _ (by omega) (by omega) (by omega) (by omega)).mono ?_
  rintro e w1 ⟨⟨r, rfl, hr, hs, _, _⟩, rfl⟩
  have hr' : r = -1 := by
    have := unhide H1
    have hs' := hs (by omega) (by omega)
    simp only [Int.natAbs_neg, Int.natAbs_natCast] at hr
    omega
  clear hr hs
  subst hr'
  go_wp2
  exact bodyPost_ret (v := .tuple #[.agg #[.int .i64 ((n.natAbs : Int)), .int .i64 ((d.natAbs : Int))], .int .i64 0]) (by simp [results, Try.results47, go_sem]) rfl ⟨rfl, (Below.refl _ _).alloc (Nat.le_refl _) _⟩
set_option maxHeartbeats 400000 in
theorem so_many_ff (n d : Int) (w : World) (hn1 : -9223372036854775808 ≤ n) (hn2 : n ≤ 9223372036854775807) (hd1 : -9223372036854775808 ≤ d) (hd2 : d ≤ 9223372036854775807) (hd : d ≠ 0) (G T B : Nat) (HG : Hid (Nat.gcd n.natAbs d.natAbs = G)) (hg : 2 ≤ G) (hgA : G ≤ 9223372036854775808) (qT : (-(n.natAbs : Int)).tdiv (-(G : Int)) = (T : Int)) (qB : (-(d.natAbs : Int)).tdiv (-(G : Int)) = (B : Int)) (hT : T ≤ 4611686018427387904) (hB : B ≤ 4611686018427387904) (hf1 : T ≤ 1000000000) (hf2 : B ≤ 1000000000) (e1 : decide (n < 0) = false) (e2 : decide (d < 0) = false) :
    Calls Try.prog 47 #[.int .i64 n, .int .i64 d] w fun e w' => e = .returned (.tuple #[.agg #[.int .i64 ((T : Int)), .int .i64 ((B : Int))], .int .i64 0]) ∧ Below w.heap.size w w' := by
  have wT : wrap64 (T : Int) = (T : Int) := IntWalk.wrap64_in _ ⟨by omega, by omega⟩
  have wB : wrap64 (B : Int) = (B : Int) := IntWalk.wrap64_in _ ⟨by omega, by omega⟩
  have hg1 : ((-(G : Int)) == -1) = false := by simp; omega
  have hg0 : ((-(G : Int)) == 0) = false := by simp; omega
  have hdz : (d == 0) = false := by simp [hd]
  go_enter Try.func47, Try.ntmps47
  go_wp2_with fail
  refine (low_any _ _ hn1 hn2).mono ?_
  rintro e w1 ⟨rfl, rfl⟩
  go_wp2_with fail
  refine (low_any _ _ hd1 hd2).mono ?_
  rintro e w1 ⟨rfl, rfl⟩
  go_wp2_with fail
  refine (fgcd_any _ _ _ (by omega) (by omega) (by omega) (by omega)).mono ?_
  rintro e w1 ⟨⟨r, rfl, hr, hs, _, _⟩, rfl⟩
  have hr' : r = -(G : Int) := by
    have hs' := hs (by omega) (by omega)
    simp only [Int.natAbs_neg, Int.natAbs_natCast] at hr
    rw [unhide HG] at hr
    omega
  clear hr hs
  subst hr'
  go_wp2
  exact bodyPost_ret (v := .tuple #[.agg #[.int .i64 ((T : Int)), .int .i64 ((B : Int))], .int .i64 0]) (by simp [results, Try.results47, go_sem]) rfl ⟨rfl, (Below.refl _ _).alloc (Nat.le_refl _) _⟩
end Go.Proofs.Ytimkinpbimangaa
