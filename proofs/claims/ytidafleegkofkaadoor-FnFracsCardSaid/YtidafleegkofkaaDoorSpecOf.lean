/-
  What the model's FracOf answers.
-/
import Derived.Test.YtidafleegkofkaaDoorLeaves
import Derived.Below
namespace Go.Proofs.YtidafleegkofkaaDoor
open Go.ChangeShapes Go.WideShapes Go.ChangeAt Go.RowKit
set_option linter.unusedVariables false
set_option linter.unusedSimpArgs false


/-- the answer of FracOf -/
def frAns (n d : Int) : Value := .tuple #[.agg #[.int .i64 (frN n d), .int .i64 (frD n d)], .int .i64 (frCode n d)]

theorem ans_zero (n : Int) : frAns n 0 = .tuple #[.agg #[.int .i64 0, .int .i64 0], .int .i64 11] := by
  simp [frAns, frN, frD, frCode]

theorem ans_over (n d : Int) (h : d ≠ 0) (hf : 1000000000 < frTop n d ∨ 1000000000 < frBot n d) : frAns n d = .tuple #[.agg #[.int .i64 0, .int .i64 0], .int .i64 12] := by
  have : frFits n d = false := decide_eq_false (by omega)
  simp [frAns, frN, frD, frCode, h, this]

theorem ans_fits (n d : Int) (h : d ≠ 0) (h1 : frTop n d ≤ 1000000000) (h2 : frBot n d ≤ 1000000000) (x : Int) (hx : x = if (n < 0) ↔ (d < 0) then (frTop n d : Int) else -(frTop n d : Int)) :
    frAns n d = .tuple #[.agg #[.int .i64 x, .int .i64 (frBot n d : Int)], .int .i64 0] := by
  have : frFits n d = true := decide_eq_true ⟨h1, h2⟩
  subst hx
  simp [frAns, frN, frD, frCode, h, this]

theorem tdiv_negs (a g : Nat) : (-(a : Int)).tdiv (-(g : Int)) = ((a / g : Nat) : Int) := by
  rw [Int.neg_tdiv, Int.tdiv_neg, Int.neg_neg]; rfl

set_option maxHeartbeats 400000 in
theorem so_zero (n : Int) (w : World) :
    Calls Tryd.prog 17 #[.int .i64 n, .int .i64 0] w fun e w' => e = .returned (.tuple #[.agg #[.int .i64 0, .int .i64 0], .int .i64 11]) ∧ Below w.heap.size w w' := by
  go_enter Tryd.func17, Tryd.ntmps17
  go_wp2
  exact bodyPost_ret (v := .tuple #[.agg #[.int .i64 (0), .int .i64 (0)], .int .i64 11]) (by simp [results, Tryd.results17, go_sem]) rfl ⟨rfl, (Below.refl _ _).alloc (Nat.le_refl _) _⟩

set_option maxHeartbeats 400000 in
theorem so_one_over1 (n d : Int) (w : World) (hn1 : -9223372036854775808 ≤ n) (hn2 : n ≤ 9223372036854775807) (hd1 : -9223372036854775808 ≤ d) (hd2 : d ≤ 9223372036854775807) (hd : d ≠ 0) (H1 : Hid (Nat.gcd n.natAbs d.natAbs = 1)) (hf : 1000000000 < n.natAbs) :
    Calls Tryd.prog 17 #[.int .i64 n, .int .i64 d] w fun e w' => e = .returned (.tuple #[.agg #[.int .i64 (0), .int .i64 (0)], .int .i64 12]) ∧ Below w.heap.size w w' := by
  have hdz : (d == 0) = false := by simp [hd]
  go_enter Tryd.func17, Tryd.ntmps17
  go_wp2_with fail
  refine (low_any _ _ hn1 hn2).mono ?_
  rintro e w1 ⟨rfl, rfl⟩
  go_wp2_with fail
  refine (low_any _ _ hd1 hd2).mono ?_
  rintro e w1 ⟨rfl, rfl⟩
  go_wp2_with fail
  refine (gcd_any _ _ _ (by omega) (by omega) (by omega) (by omega)).mono ?_
  rintro e w1 ⟨⟨r, rfl, hr, hs, _, _⟩, rfl⟩
  have hr' : r = -1 := by
    have := unhide H1
    have hs' := hs (by omega) (by omega)
    simp only [Int.natAbs_neg, Int.natAbs_natCast] at hr
    omega
  clear hr hs
  subst hr'
  go_wp2
  exact bodyPost_ret (v := .tuple #[.agg #[.int .i64 (0), .int .i64 (0)], .int .i64 12]) (by simp [results, Tryd.results17, go_sem]) rfl ⟨rfl, (Below.refl _ _).alloc (Nat.le_refl _) _⟩

set_option maxHeartbeats 400000 in
theorem so_one_over2 (n d : Int) (w : World) (hn1 : -9223372036854775808 ≤ n) (hn2 : n ≤ 9223372036854775807) (hd1 : -9223372036854775808 ≤ d) (hd2 : d ≤ 9223372036854775807) (hd : d ≠ 0) (H1 : Hid (Nat.gcd n.natAbs d.natAbs = 1)) (hf1 : n.natAbs ≤ 1000000000) (hf2 : 1000000000 < d.natAbs) :
    Calls Tryd.prog 17 #[.int .i64 n, .int .i64 d] w fun e w' => e = .returned (.tuple #[.agg #[.int .i64 (0), .int .i64 (0)], .int .i64 12]) ∧ Below w.heap.size w w' := by
  have hdz : (d == 0) = false := by simp [hd]
  go_enter Tryd.func17, Tryd.ntmps17
  go_wp2_with fail
  refine (low_any _ _ hn1 hn2).mono ?_
  rintro e w1 ⟨rfl, rfl⟩
  go_wp2_with fail
  refine (low_any _ _ hd1 hd2).mono ?_
  rintro e w1 ⟨rfl, rfl⟩
  go_wp2_with fail
  refine (gcd_any _ _ _ (by omega) (by omega) (by omega) (by omega)).mono ?_
  rintro e w1 ⟨⟨r, rfl, hr, hs, _, _⟩, rfl⟩
  have hr' : r = -1 := by
    have := unhide H1
    have hs' := hs (by omega) (by omega)
    simp only [Int.natAbs_neg, Int.natAbs_natCast] at hr
    omega
  clear hr hs
  subst hr'
  go_wp2
  exact bodyPost_ret (v := .tuple #[.agg #[.int .i64 (0), .int .i64 (0)], .int .i64 12]) (by simp [results, Tryd.results17, go_sem]) rfl ⟨rfl, (Below.refl _ _).alloc (Nat.le_refl _) _⟩

set_option maxHeartbeats 400000 in
theorem so_many_over1 (n d : Int) (w : World) (hn1 : -9223372036854775808 ≤ n) (hn2 : n ≤ 9223372036854775807) (hd1 : -9223372036854775808 ≤ d) (hd2 : d ≤ 9223372036854775807) (hd : d ≠ 0) (G T B : Nat) (HG : Hid (Nat.gcd n.natAbs d.natAbs = G)) (hg : 2 ≤ G) (hgA : G ≤ 9223372036854775808) (qT : (-(n.natAbs : Int)).tdiv (-(G : Int)) = (T : Int)) (qB : (-(d.natAbs : Int)).tdiv (-(G : Int)) = (B : Int)) (hT : T ≤ 4611686018427387904) (hB : B ≤ 4611686018427387904) (hf : 1000000000 < T) :
    Calls Tryd.prog 17 #[.int .i64 n, .int .i64 d] w fun e w' => e = .returned (.tuple #[.agg #[.int .i64 (0), .int .i64 (0)], .int .i64 12]) ∧ Below w.heap.size w w' := by
  have wT : wrap64 (T : Int) = (T : Int) := IntWalk.wrap64_in _ ⟨by omega, by omega⟩
  have wB : wrap64 (B : Int) = (B : Int) := IntWalk.wrap64_in _ ⟨by omega, by omega⟩
  have hg1 : ((-(G : Int)) == -1) = false := by simp; omega
  have hg0 : ((-(G : Int)) == 0) = false := by simp; omega
  have hdz : (d == 0) = false := by simp [hd]
  go_enter Tryd.func17, Tryd.ntmps17
  go_wp2_with fail
  refine (low_any _ _ hn1 hn2).mono ?_
  rintro e w1 ⟨rfl, rfl⟩
  go_wp2_with fail
  refine (low_any _ _ hd1 hd2).mono ?_
  rintro e w1 ⟨rfl, rfl⟩
  go_wp2_with fail
  refine (gcd_any _ _ _ (by omega) (by omega) (by omega) (by omega)).mono ?_
  rintro e w1 ⟨⟨r, rfl, hr, hs, _, _⟩, rfl⟩
  have hr' : r = -(G : Int) := by
    have hs' := hs (by omega) (by omega)
    simp only [Int.natAbs_neg, Int.natAbs_natCast] at hr
    rw [unhide HG] at hr
    omega
  clear hr hs
  subst hr'
  go_wp2
  exact bodyPost_ret (v := .tuple #[.agg #[.int .i64 (0), .int .i64 (0)], .int .i64 12]) (by simp [results, Tryd.results17, go_sem]) rfl ⟨rfl, (Below.refl _ _).alloc (Nat.le_refl _) _⟩

set_option maxHeartbeats 400000 in
theorem so_many_over2 (n d : Int) (w : World) (hn1 : -9223372036854775808 ≤ n) (hn2 : n ≤ 9223372036854775807) (hd1 : -9223372036854775808 ≤ d) (hd2 : d ≤ 9223372036854775807) (hd : d ≠ 0) (G T B : Nat) (HG : Hid (Nat.gcd n.natAbs d.natAbs = G)) (hg : 2 ≤ G) (hgA : G ≤ 9223372036854775808) (qT : (-(n.natAbs : Int)).tdiv (-(G : Int)) = (T : Int)) (qB : (-(d.natAbs : Int)).tdiv (-(G : Int)) = (B : Int)) (hT : T ≤ 4611686018427387904) (hB : B ≤ 4611686018427387904) (hf1 : T ≤ 1000000000) (hf2 : 1000000000 < B) :
    Calls Tryd.prog 17 #[.int .i64 n, .int .i64 d] w fun e w' => e = .returned (.tuple #[.agg #[.int .i64 (0), .int .i64 (0)], .int .i64 12]) ∧ Below w.heap.size w w' := by
  have wT : wrap64 (T : Int) = (T : Int) := IntWalk.wrap64_in _ ⟨by omega, by omega⟩
  have wB : wrap64 (B : Int) = (B : Int) := IntWalk.wrap64_in _ ⟨by omega, by omega⟩
  have hg1 : ((-(G : Int)) == -1) = false := by simp; omega
  have hg0 : ((-(G : Int)) == 0) = false := by simp; omega
  have hdz : (d == 0) = false := by simp [hd]
  go_enter Tryd.func17, Tryd.ntmps17
  go_wp2_with fail
  refine (low_any _ _ hn1 hn2).mono ?_
  rintro e w1 ⟨rfl, rfl⟩
  go_wp2_with fail
  refine (low_any _ _ hd1 hd2).mono ?_
  rintro e w1 ⟨rfl, rfl⟩
  go_wp2_with fail
  refine (gcd_any _ _ _ (by omega) (by omega) (by omega) (by omega)).mono ?_
  rintro e w1 ⟨⟨r, rfl, hr, hs, _, _⟩, rfl⟩
  have hr' : r = -(G : Int) := by
    have hs' := hs (by omega) (by omega)
    simp only [Int.natAbs_neg, Int.natAbs_natCast] at hr
    rw [unhide HG] at hr
    omega
  clear hr hs
  subst hr'
  go_wp2
  exact bodyPost_ret (v := .tuple #[.agg #[.int .i64 (0), .int .i64 (0)], .int .i64 12]) (by simp [results, Tryd.results17, go_sem]) rfl ⟨rfl, (Below.refl _ _).alloc (Nat.le_refl _) _⟩

set_option maxHeartbeats 400000 in
theorem so_one_tt (n d : Int) (w : World) (hn1 : -9223372036854775808 ≤ n) (hn2 : n ≤ 9223372036854775807) (hd1 : -9223372036854775808 ≤ d) (hd2 : d ≤ 9223372036854775807) (hd : d ≠ 0) (H1 : Hid (Nat.gcd n.natAbs d.natAbs = 1)) (hf1 : n.natAbs ≤ 1000000000) (hf2 : d.natAbs ≤ 1000000000) (e1 : decide (n < 0) = true) (e2 : decide (d < 0) = true) :
    Calls Tryd.prog 17 #[.int .i64 n, .int .i64 d] w fun e w' => e = .returned (.tuple #[.agg #[.int .i64 ((n.natAbs : Int)), .int .i64 ((d.natAbs : Int))], .int .i64 0]) ∧ Below w.heap.size w w' := by
  have hdz : (d == 0) = false := by simp [hd]
  go_enter Tryd.func17, Tryd.ntmps17
  go_wp2_with fail
  refine (low_any _ _ hn1 hn2).mono ?_
  rintro e w1 ⟨rfl, rfl⟩
  go_wp2_with fail
  refine (low_any _ _ hd1 hd2).mono ?_
  rintro e w1 ⟨rfl, rfl⟩
  go_wp2_with fail
  refine (gcd_any _ _ _ (by omega) (by omega) (by omega) (by omega)).mono ?_
  rintro e w1 ⟨⟨r, rfl, hr, hs, _, _⟩, rfl⟩
  have hr' : r = -1 := by
    have := unhide H1
    have hs' := hs (by omega) (by omega)
    simp only [Int.natAbs_neg, Int.natAbs_natCast] at hr
    omega
  clear hr hs
  subst hr'
  go_wp2
  exact bodyPost_ret (v := .tuple #[.agg #[.int .i64 ((n.natAbs : Int)), .int .i64 ((d.natAbs : Int))], .int .i64 0]) (by simp [results, Tryd.results17, go_sem]) rfl ⟨rfl, (Below.refl _ _).alloc (Nat.le_refl _) _⟩

set_option maxHeartbeats 400000 in
theorem so_many_tt (n d : Int) (w : World) (hn1 : -9223372036854775808 ≤ n) (hn2 : n ≤ 9223372036854775807) (hd1 : -9223372036854775808 ≤ d) (hd2 : d ≤ 9223372036854775807) (hd : d ≠ 0) (G T B : Nat) (HG : Hid (Nat.gcd n.natAbs d.natAbs = G)) (hg : 2 ≤ G) (hgA : G ≤ 9223372036854775808) (qT : (-(n.natAbs : Int)).tdiv (-(G : Int)) = (T : Int)) (qB : (-(d.natAbs : Int)).tdiv (-(G : Int)) = (B : Int)) (hT : T ≤ 4611686018427387904) (hB : B ≤ 4611686018427387904) (hf1 : T ≤ 1000000000) (hf2 : B ≤ 1000000000) (e1 : decide (n < 0) = true) (e2 : decide (d < 0) = true) :
    Calls Tryd.prog 17 #[.int .i64 n, .int .i64 d] w fun e w' => e = .returned (.tuple #[.agg #[.int .i64 ((T : Int)), .int .i64 ((B : Int))], .int .i64 0]) ∧ Below w.heap.size w w' := by
  have wT : wrap64 (T : Int) = (T : Int) := IntWalk.wrap64_in _ ⟨by omega, by omega⟩
  have wB : wrap64 (B : Int) = (B : Int) := IntWalk.wrap64_in _ ⟨by omega, by omega⟩
  have hg1 : ((-(G : Int)) == -1) = false := by simp; omega
  have hg0 : ((-(G : Int)) == 0) = false := by simp; omega
  have hdz : (d == 0) = false := by simp [hd]
  go_enter Tryd.func17, Tryd.ntmps17
  go_wp2_with fail
  refine (low_any _ _ hn1 hn2).mono ?_
  rintro e w1 ⟨rfl, rfl⟩
  go_wp2_with fail
  refine (low_any _ _ hd1 hd2).mono ?_
  rintro e w1 ⟨rfl, rfl⟩
  go_wp2_with fail
  refine (gcd_any _ _ _ (by omega) (by omega) (by omega) (by omega)).mono ?_
  rintro e w1 ⟨⟨r, rfl, hr, hs, _, _⟩, rfl⟩
  have hr' : r = -(G : Int) := by
    have hs' := hs (by omega) (by omega)
    simp only [Int.natAbs_neg, Int.natAbs_natCast] at hr
    rw [unhide HG] at hr
    omega
  clear hr hs
  subst hr'
  go_wp2
  exact bodyPost_ret (v := .tuple #[.agg #[.int .i64 ((T : Int)), .int .i64 ((B : Int))], .int .i64 0]) (by simp [results, Tryd.results17, go_sem]) rfl ⟨rfl, (Below.refl _ _).alloc (Nat.le_refl _) _⟩

set_option maxHeartbeats 400000 in
theorem so_one_tf (n d : Int) (w : World) (hn1 : -9223372036854775808 ≤ n) (hn2 : n ≤ 9223372036854775807) (hd1 : -9223372036854775808 ≤ d) (hd2 : d ≤ 9223372036854775807) (hd : d ≠ 0) (H1 : Hid (Nat.gcd n.natAbs d.natAbs = 1)) (hf1 : n.natAbs ≤ 1000000000) (hf2 : d.natAbs ≤ 1000000000) (e1 : decide (n < 0) = true) (e2 : decide (d < 0) = false) :
    Calls Tryd.prog 17 #[.int .i64 n, .int .i64 d] w fun e w' => e = .returned (.tuple #[.agg #[.int .i64 (-(n.natAbs : Int)), .int .i64 ((d.natAbs : Int))], .int .i64 0]) ∧ Below w.heap.size w w' := by
  have hdz : (d == 0) = false := by simp [hd]
  go_enter Tryd.func17, Tryd.ntmps17
  go_wp2_with fail
  refine (low_any _ _ hn1 hn2).mono ?_
  rintro e w1 ⟨rfl, rfl⟩
  go_wp2_with fail
  refine (low_any _ _ hd1 hd2).mono ?_
  rintro e w1 ⟨rfl, rfl⟩
  go_wp2_with fail
  refine (gcd_any _ _ _ (by omega) (by omega) (by omega) (by omega)).mono ?_
  rintro e w1 ⟨⟨r, rfl, hr, hs, _, _⟩, rfl⟩
  have hr' : r = -1 := by
    have := unhide H1
    have hs' := hs (by omega) (by omega)
    simp only [Int.natAbs_neg, Int.natAbs_natCast] at hr
    omega
  clear hr hs
  subst hr'
  go_wp2
  exact bodyPost_ret (v := .tuple #[.agg #[.int .i64 (-(n.natAbs : Int)), .int .i64 ((d.natAbs : Int))], .int .i64 0]) (by simp [results, Tryd.results17, go_sem]) rfl ⟨rfl, (Below.refl _ _).alloc (Nat.le_refl _) _⟩

set_option maxHeartbeats 400000 in
theorem so_many_tf (n d : Int) (w : World) (hn1 : -9223372036854775808 ≤ n) (hn2 : n ≤ 9223372036854775807) (hd1 : -9223372036854775808 ≤ d) (hd2 : d ≤ 9223372036854775807) (hd : d ≠ 0) (G T B : Nat) (HG : Hid (Nat.gcd n.natAbs d.natAbs = G)) (hg : 2 ≤ G) (hgA : G ≤ 9223372036854775808) (qT : (-(n.natAbs : Int)).tdiv (-(G : Int)) = (T : Int)) (qB : (-(d.natAbs : Int)).tdiv (-(G : Int)) = (B : Int)) (hT : T ≤ 4611686018427387904) (hB : B ≤ 4611686018427387904) (hf1 : T ≤ 1000000000) (hf2 : B ≤ 1000000000) (e1 : decide (n < 0) = true) (e2 : decide (d < 0) = false) :
    Calls Tryd.prog 17 #[.int .i64 n, .int .i64 d] w fun e w' => e = .returned (.tuple #[.agg #[.int .i64 (-(T : Int)), .int .i64 ((B : Int))], .int .i64 0]) ∧ Below w.heap.size w w' := by
  have wT : wrap64 (T : Int) = (T : Int) := IntWalk.wrap64_in _ ⟨by omega, by omega⟩
  have wB : wrap64 (B : Int) = (B : Int) := IntWalk.wrap64_in _ ⟨by omega, by omega⟩
  have hg1 : ((-(G : Int)) == -1) = false := by simp; omega
  have hg0 : ((-(G : Int)) == 0) = false := by simp; omega
  have hdz : (d == 0) = false := by simp [hd]
  go_enter Tryd.func17, Tryd.ntmps17
  go_wp2_with fail
  refine (low_any _ _ hn1 hn2).mono ?_
  rintro e w1 ⟨rfl, rfl⟩
  go_wp2_with fail
  refine (low_any _ _ hd1 hd2).mono ?_
  rintro e w1 ⟨rfl, rfl⟩
  go_wp2_with fail
  refine (gcd_any _ _ _ (by omega) (by omega) (by omega) (by omega)).mono ?_
  rintro e w1 ⟨⟨r, rfl, hr, hs, _, _⟩, rfl⟩
  have hr' : r = -(G : Int) := by
    have hs' := hs (by omega) (by omega)
    simp only [Int.natAbs_neg, Int.natAbs_natCast] at hr
    rw [unhide HG] at hr
    omega
  clear hr hs
  subst hr'
  go_wp2
  exact bodyPost_ret (v := .tuple #[.agg #[.int .i64 (-(T : Int)), .int .i64 ((B : Int))], .int .i64 0]) (by simp [results, Tryd.results17, go_sem]) rfl ⟨rfl, (Below.refl _ _).alloc (Nat.le_refl _) _⟩

set_option maxHeartbeats 400000 in
theorem so_one_ft (n d : Int) (w : World) (hn1 : -9223372036854775808 ≤ n) (hn2 : n ≤ 9223372036854775807) (hd1 : -9223372036854775808 ≤ d) (hd2 : d ≤ 9223372036854775807) (hd : d ≠ 0) (H1 : Hid (Nat.gcd n.natAbs d.natAbs = 1)) (hf1 : n.natAbs ≤ 1000000000) (hf2 : d.natAbs ≤ 1000000000) (e1 : decide (n < 0) = false) (e2 : decide (d < 0) = true) :
    Calls Tryd.prog 17 #[.int .i64 n, .int .i64 d] w fun e w' => e = .returned (.tuple #[.agg #[.int .i64 (-(n.natAbs : Int)), .int .i64 ((d.natAbs : Int))], .int .i64 0]) ∧ Below w.heap.size w w' := by
  have hdz : (d == 0) = false := by simp [hd]
  go_enter Tryd.func17, Tryd.ntmps17
  go_wp2_with fail
  refine (low_any _ _ hn1 hn2).mono ?_
  rintro e w1 ⟨rfl, rfl⟩
  go_wp2_with fail
  refine (low_any _ _ hd1 hd2).mono ?_
  rintro e w1 ⟨rfl, rfl⟩
  go_wp2_with fail
  refine (gcd_any _ _ _ (by omega) (by omega) (by omega) (by omega)).mono ?_
  rintro e w1 ⟨⟨r, rfl, hr, hs, _, _⟩, rfl⟩
  have hr' : r = -1 := by
    have := unhide H1
    have hs' := hs (by omega) (by omega)
    simp only [Int.natAbs_neg, Int.natAbs_natCast] at hr
    omega
  clear hr hs
  subst hr'
  go_wp2
  exact bodyPost_ret (v := .tuple #[.agg #[.int .i64 (-(n.natAbs : Int)), .int .i64 ((d.natAbs : Int))], .int .i64 0]) (by simp [results, Tryd.results17, go_sem]) rfl ⟨rfl, (Below.refl _ _).alloc (Nat.le_refl _) _⟩

set_option maxHeartbeats 400000 in
theorem so_many_ft (n d : Int) (w : World) (hn1 : -9223372036854775808 ≤ n) (hn2 : n ≤ 9223372036854775807) (hd1 : -9223372036854775808 ≤ d) (hd2 : d ≤ 9223372036854775807) (hd : d ≠ 0) (G T B : Nat) (HG : Hid (Nat.gcd n.natAbs d.natAbs = G)) (hg : 2 ≤ G) (hgA : G ≤ 9223372036854775808) (qT : (-(n.natAbs : Int)).tdiv (-(G : Int)) = (T : Int)) (qB : (-(d.natAbs : Int)).tdiv (-(G : Int)) = (B : Int)) (hT : T ≤ 4611686018427387904) (hB : B ≤ 4611686018427387904) (hf1 : T ≤ 1000000000) (hf2 : B ≤ 1000000000) (e1 : decide (n < 0) = false) (e2 : decide (d < 0) = true) :
    Calls Tryd.prog 17 #[.int .i64 n, .int .i64 d] w fun e w' => e = .returned (.tuple #[.agg #[.int .i64 (-(T : Int)), .int .i64 ((B : Int))], .int .i64 0]) ∧ Below w.heap.size w w' := by
  have wT : wrap64 (T : Int) = (T : Int) := IntWalk.wrap64_in _ ⟨by omega, by omega⟩
  have wB : wrap64 (B : Int) = (B : Int) := IntWalk.wrap64_in _ ⟨by omega, by omega⟩
  have hg1 : ((-(G : Int)) == -1) = false := by simp; omega
  have hg0 : ((-(G : Int)) == 0) = false := by simp; omega
  have hdz : (d == 0) = false := by simp [hd]
  go_enter Tryd.func17, Tryd.ntmps17
  go_wp2_with fail
  refine (low_any _ _ hn1 hn2).mono ?_
  rintro e w1 ⟨rfl, rfl⟩
  go_wp2_with fail
  refine (low_any _ _ hd1 hd2).mono ?_
  rintro e w1 ⟨rfl, rfl⟩
  go_wp2_with fail
  refine (gcd_any _ _ _ (by omega) (by omega) (by omega) (by omega)).mono ?_
  rintro e w1 ⟨⟨r, rfl, hr, hs, _, _⟩, rfl⟩
  have hr' : r = -(G : Int) := by
    have hs' := hs (by omega) (by omega)
    simp only [Int.natAbs_neg, Int.natAbs_natCast] at hr
    rw [unhide HG] at hr
    omega
  clear hr hs
  subst hr'
  go_wp2
  exact bodyPost_ret (v := .tuple #[.agg #[.int .i64 (-(T : Int)), .int .i64 ((B : Int))], .int .i64 0]) (by simp [results, Tryd.results17, go_sem]) rfl ⟨rfl, (Below.refl _ _).alloc (Nat.le_refl _) _⟩

set_option maxHeartbeats 400000 in
theorem so_one_ff (n d : Int) (w : World) (hn1 : -9223372036854775808 ≤ n) (hn2 : n ≤ 9223372036854775807) (hd1 : -9223372036854775808 ≤ d) (hd2 : d ≤ 9223372036854775807) (hd : d ≠ 0) (H1 : Hid (Nat.gcd n.natAbs d.natAbs = 1)) (hf1 : n.natAbs ≤ 1000000000) (hf2 : d.natAbs ≤ 1000000000) (e1 : decide (n < 0) = false) (e2 : decide (d < 0) = false) :
    Calls Tryd.prog 17 #[.int .i64 n, .int .i64 d] w fun e w' => e = .returned (.tuple #[.agg #[.int .i64 ((n.natAbs : Int)), .int .i64 ((d.natAbs : Int))], .int .i64 0]) ∧ Below w.heap.size w w' := by
  have hdz : (d == 0) = false := by simp [hd]
  go_enter Tryd.func17, Tryd.ntmps17
  go_wp2_with fail
  refine (low_any _ _ hn1 hn2).mono ?_
  rintro e w1 ⟨rfl, rfl⟩
  go_wp2_with fail
  refine (low_any _ _ hd1 hd2).mono ?_
  rintro e w1 ⟨rfl, rfl⟩
  go_wp2_with fail
  refine (gcd_any _ _ _ (by omega) (by omega) (by omega) (by omega)).mono ?_
  rintro e w1 ⟨⟨r, rfl, hr, hs, _, _⟩, rfl⟩
  have hr' : r = -1 := by
    have := unhide H1
    have hs' := hs (by omega) (by omega)
    simp only [Int.natAbs_neg, Int.natAbs_natCast] at hr
    omega
  clear hr hs
  subst hr'
  go_wp2
  exact bodyPost_ret (v := .tuple #[.agg #[.int .i64 ((n.natAbs : Int)), .int .i64 ((d.natAbs : Int))], .int .i64 0]) (by simp [results, Tryd.results17, go_sem]) rfl ⟨rfl, (Below.refl _ _).alloc (Nat.le_refl _) _⟩

set_option maxHeartbeats 400000 in
theorem so_many_ff (n d : Int) (w : World) (hn1 : -9223372036854775808 ≤ n) (hn2 : n ≤ 9223372036854775807) (hd1 : -9223372036854775808 ≤ d) (hd2 : d ≤ 9223372036854775807) (hd : d ≠ 0) (G T B : Nat) (HG : Hid (Nat.gcd n.natAbs d.natAbs = G)) (hg : 2 ≤ G) (hgA : G ≤ 9223372036854775808) (qT : (-(n.natAbs : Int)).tdiv (-(G : Int)) = (T : Int)) (qB : (-(d.natAbs : Int)).tdiv (-(G : Int)) = (B : Int)) (hT : T ≤ 4611686018427387904) (hB : B ≤ 4611686018427387904) (hf1 : T ≤ 1000000000) (hf2 : B ≤ 1000000000) (e1 : decide (n < 0) = false) (e2 : decide (d < 0) = false) :
    Calls Tryd.prog 17 #[.int .i64 n, .int .i64 d] w fun e w' => e = .returned (.tuple #[.agg #[.int .i64 ((T : Int)), .int .i64 ((B : Int))], .int .i64 0]) ∧ Below w.heap.size w w' := by
  have wT : wrap64 (T : Int) = (T : Int) := IntWalk.wrap64_in _ ⟨by omega, by omega⟩
  have wB : wrap64 (B : Int) = (B : Int) := IntWalk.wrap64_in _ ⟨by omega, by omega⟩
  have hg1 : ((-(G : Int)) == -1) = false := by simp; omega
  have hg0 : ((-(G : Int)) == 0) = false := by simp; omega
  have hdz : (d == 0) = false := by simp [hd]
  go_enter Tryd.func17, Tryd.ntmps17
  go_wp2_with fail
  refine (low_any _ _ hn1 hn2).mono ?_
  rintro e w1 ⟨rfl, rfl⟩
  go_wp2_with fail
  refine (low_any _ _ hd1 hd2).mono ?_
  rintro e w1 ⟨rfl, rfl⟩
  go_wp2_with fail
  refine (gcd_any _ _ _ (by omega) (by omega) (by omega) (by omega)).mono ?_
  rintro e w1 ⟨⟨r, rfl, hr, hs, _, _⟩, rfl⟩
  have hr' : r = -(G : Int) := by
    have hs' := hs (by omega) (by omega)
    simp only [Int.natAbs_neg, Int.natAbs_natCast] at hr
    rw [unhide HG] at hr
    omega
  clear hr hs
  subst hr'
  go_wp2
  exact bodyPost_ret (v := .tuple #[.agg #[.int .i64 ((T : Int)), .int .i64 ((B : Int))], .int .i64 0]) (by simp [results, Tryd.results17, go_sem]) rfl ⟨rfl, (Below.refl _ _).alloc (Nat.le_refl _) _⟩


theorem signs (n d : Int) : (decide (n < 0) = true ∧ decide (d < 0) = true ∧ ((n < 0) ↔ (d < 0))) ∨ (decide (n < 0) = false ∧ decide (d < 0) = false ∧ ((n < 0) ↔ (d < 0))) ∨
    (decide (n < 0) = true ∧ decide (d < 0) = false ∧ ¬ ((n < 0) ↔ (d < 0))) ∨ (decide (n < 0) = false ∧ decide (d < 0) = true ∧ ¬ ((n < 0) ↔ (d < 0))) := by
  by_cases a : n < 0 <;> by_cases b : d < 0 <;> simp [a, b]

theorem specOf_any (n d : Int) (w : World) (hn1 : -9223372036854775808 ≤ n) (hn2 : n ≤ 9223372036854775807) (hd1 : -9223372036854775808 ≤ d) (hd2 : d ≤ 9223372036854775807) :
    Calls Tryd.prog 17 #[.int .i64 n, .int .i64 d] w fun e w' => e = .returned (frAns n d) ∧ Below w.heap.size w w' := by
  by_cases hd : d = 0
  · subst hd
    rw [ans_zero]
    exact so_zero n w
  have hg := gcd_pos n d hd
  have hgA : Nat.gcd n.natAbs d.natAbs ≤ 9223372036854775808 := Nat.le_trans (Nat.gcd_le_right _ (by omega)) (by omega)
  by_cases h1 : Nat.gcd n.natAbs d.natAbs = 1
  · have eT : frTop n d = n.natAbs := by unfold frTop; rw [h1, Nat.div_one]
    have eB : frBot n d = d.natAbs := by unfold frBot; rw [h1, Nat.div_one]
    by_cases f1 : 1000000000 < n.natAbs
    · rw [ans_over n d hd (Or.inl (by rw [eT]; exact f1))]
      exact so_one_over1 n d w hn1 hn2 hd1 hd2 hd (hide h1) f1
    by_cases f2 : 1000000000 < d.natAbs
    · rw [ans_over n d hd (Or.inr (by rw [eB]; exact f2))]
      exact so_one_over2 n d w hn1 hn2 hd1 hd2 hd (hide h1) (Nat.le_of_not_lt f1) f2
    have g1 : frTop n d ≤ 1000000000 := by rw [eT]; exact Nat.le_of_not_lt f1
    have g2 : frBot n d ≤ 1000000000 := by rw [eB]; exact Nat.le_of_not_lt f2
    rcases signs n d with ⟨e1, e2, hs⟩ | ⟨e1, e2, hs⟩ | ⟨e1, e2, hs⟩ | ⟨e1, e2, hs⟩
    · rw [ans_fits n d hd g1 g2 (n.natAbs : Int) (by rw [if_pos hs, eT]), eB]
      exact so_one_tt n d w hn1 hn2 hd1 hd2 hd (hide h1) (Nat.le_of_not_lt f1) (Nat.le_of_not_lt f2) e1 e2
    · rw [ans_fits n d hd g1 g2 (n.natAbs : Int) (by rw [if_pos hs, eT]), eB]
      exact so_one_ff n d w hn1 hn2 hd1 hd2 hd (hide h1) (Nat.le_of_not_lt f1) (Nat.le_of_not_lt f2) e1 e2
    · rw [ans_fits n d hd g1 g2 (-(n.natAbs : Int)) (by rw [if_neg hs, eT]), eB]
      exact so_one_tf n d w hn1 hn2 hd1 hd2 hd (hide h1) (Nat.le_of_not_lt f1) (Nat.le_of_not_lt f2) e1 e2
    · rw [ans_fits n d hd g1 g2 (-(n.natAbs : Int)) (by rw [if_neg hs, eT]), eB]
      exact so_one_ft n d w hn1 hn2 hd1 hd2 hd (hide h1) (Nat.le_of_not_lt f1) (Nat.le_of_not_lt f2) e1 e2
  have h2 : 2 ≤ Nat.gcd n.natAbs d.natAbs := by omega
  have hT0 : n.natAbs / Nat.gcd n.natAbs d.natAbs ≤ n.natAbs / 2 := Nat.div_le_div_left h2 (by decide)
  have hT : frTop n d ≤ 4611686018427387904 := Nat.le_trans hT0 (by omega)
  have hB0 : d.natAbs / Nat.gcd n.natAbs d.natAbs ≤ d.natAbs / 2 := Nat.div_le_div_left h2 (by decide)
  have hB : frBot n d ≤ 4611686018427387904 := Nat.le_trans hB0 (by omega)
  have qT : (-(n.natAbs : Int)).tdiv (-(Nat.gcd n.natAbs d.natAbs : Int)) = (frTop n d : Int) := tdiv_negs _ _
  have qB : (-(d.natAbs : Int)).tdiv (-(Nat.gcd n.natAbs d.natAbs : Int)) = (frBot n d : Int) := tdiv_negs _ _
  by_cases f1 : 1000000000 < frTop n d
  · rw [ans_over n d hd (Or.inl f1)]
    exact so_many_over1 n d w hn1 hn2 hd1 hd2 hd _ _ _ (hide rfl) h2 hgA qT qB hT hB f1
  by_cases f2 : 1000000000 < frBot n d
  · rw [ans_over n d hd (Or.inr f2)]
    exact so_many_over2 n d w hn1 hn2 hd1 hd2 hd _ _ _ (hide rfl) h2 hgA qT qB hT hB (Nat.le_of_not_lt f1) f2
  have g1 := Nat.le_of_not_lt f1
  have g2 := Nat.le_of_not_lt f2
  rcases signs n d with ⟨e1, e2, hs⟩ | ⟨e1, e2, hs⟩ | ⟨e1, e2, hs⟩ | ⟨e1, e2, hs⟩
  · rw [ans_fits n d hd g1 g2 (frTop n d : Int) (by rw [if_pos hs])]
    exact so_many_tt n d w hn1 hn2 hd1 hd2 hd _ _ _ (hide rfl) h2 hgA qT qB hT hB g1 g2 e1 e2
  · rw [ans_fits n d hd g1 g2 (frTop n d : Int) (by rw [if_pos hs])]
    exact so_many_ff n d w hn1 hn2 hd1 hd2 hd _ _ _ (hide rfl) h2 hgA qT qB hT hB g1 g2 e1 e2
  · rw [ans_fits n d hd g1 g2 (-(frTop n d : Int)) (by rw [if_neg hs])]
    exact so_many_tf n d w hn1 hn2 hd1 hd2 hd _ _ _ (hide rfl) h2 hgA qT qB hT hB g1 g2 e1 e2
  · rw [ans_fits n d hd g1 g2 (-(frTop n d : Int)) (by rw [if_neg hs])]
    exact so_many_ft n d w hn1 hn2 hd1 hd2 hd _ _ _ (hide rfl) h2 hgA qT qB hT hB g1 g2 e1 e2


end Go.Proofs.YtidafleegkofkaaDoor
