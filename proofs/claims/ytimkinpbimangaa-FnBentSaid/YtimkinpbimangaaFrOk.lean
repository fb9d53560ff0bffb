/-
  When a fraction is right, by the model and by the program; a fraction carried over field by field.
-/
import Derived.Test.YtimkinpbimangaaFrIm
namespace Go.Proofs.Ytimkinpbimangaa
open Go.ChangeShapes Go.WideShapes Go.ChangeAt Go.RowKit
set_option linter.unusedVariables false

/-- a fraction as a value -/
abbrev FR (n d : Int) : Value := .agg #[.int .i64 n, .int .i64 d]

theorem bcell {W w1 : World} (hb : Below W.heap.size W w1) : (∀ b o, b < W.heap.size → w1.cell? ⟨b, o, none⟩ = W.cell? ⟨b, o, none⟩) ∧ (∀ b o, b < W.heap.size → w1.frozen? ⟨b, o, none⟩ = W.frozen? ⟨b, o, none⟩) :=
  ⟨fun b o h => hb.cell (p := ⟨b, o, none⟩) h, fun b o h => hb.frozen (p := ⟨b, o, none⟩) h⟩

set_option maxHeartbeats 400000 in
theorem eqFrac_any (n d : Int) (w : World) :
    Calls Try.prog 28 #[.agg #[.int .i64 n, .int .i64 d], .agg #[.int .i64 n, .int .i64 d]] w fun e w' => e = .returned (.bool true) ∧ Below w.heap.size w w' := by
  go_enter Try.func28, Try.ntmps28
  go_wp2
  go_ret
  exact ⟨rfl, by repeat (first | exact Below.refl _ _ | refine Below.alloc ?_ (by simp) _)⟩

theorem ok_false (n d : Int) (h : d < 1 ∨ 1000000000 < d ∨ n < -1000000000 ∨ 1000000000 < n) : frOk n d = false := decide_eq_false (by omega)

set_option maxHeartbeats 400000 in
theorem specOK_out (n d : Int) (w : World) (h : d < 1 ∨ (1 ≤ d ∧ 1000000000 < d) ∨ (1 ≤ d ∧ d ≤ 1000000000 ∧ n < -1000000000) ∨ (1 ≤ d ∧ d ≤ 1000000000 ∧ -1000000000 ≤ n ∧ 1000000000 < n)) :
    Calls Try.prog 48 #[.agg #[.int .i64 n, .int .i64 d]] w fun e w' => e = .returned (.bool false) ∧ Below w.heap.size w w' := by
  rcases h with h1 | ⟨h1, h2⟩ | ⟨h1, h2, h3⟩ | ⟨h1, h2, h3, h4⟩
  all_goals
    go_enter Try.func48, Try.ntmps48
    go_wp2
    go_ret
    exact ⟨rfl, by repeat (first | exact Below.refl _ _ | refine Below.alloc ?_ (by simp) _)⟩

set_option maxHeartbeats 400000 in
theorem specOK_in (n d : Int) (w : World) (h1 : 1 ≤ d) (h2 : d ≤ 1000000000) (h3 : -1000000000 ≤ n) (h4 : n ≤ 1000000000) :
    Calls Try.prog 48 #[.agg #[.int .i64 n, .int .i64 d]] w fun e w' => e = .returned (.bool (frOk n d)) ∧ Below w.heap.size w w' := by
  go_enter Try.func48, Try.ntmps48
  go_wp2_with fail
  refine (fgcd_any _ _ _ (by omega) (by omega) (by omega) (by omega)).mono ?_
  rintro e w1 ⟨⟨r, rfl, hr, hs, hr1, hr2⟩, rfl⟩
  have hle : Nat.gcd n.natAbs d.natAbs ≤ 1000000000 := Nat.le_trans (Nat.gcd_le_right _ (by omega)) (by omega)
  rw [← hr] at hle
  have hok : frOk n d = ((r.natAbs : Int) == 1) := by
    unfold frOk
    rw [Bool.eq_iff_iff]
    simp
    rw [← hr]
    omega
  have HOK := hide hok
  clear hok hr hs
  go_wp2_with fail
  refine (abs_any _ _ (by omega) (by omega)).mono ?_
  rintro e w1 ⟨rfl, rfl⟩
  go_wp2
  go_ret
  exact ⟨by rw [unhide HOK]; rfl, by repeat (first | exact Below.refl _ _ | refine Below.alloc ?_ (by simp) _)⟩

theorem specOK_any (n d : Int) (w : World) :
    Calls Try.prog 48 #[.agg #[.int .i64 n, .int .i64 d]] w fun e w' => e = .returned (.bool (frOk n d)) ∧ Below w.heap.size w w' := by
  by_cases h : 1 ≤ d ∧ d ≤ 1000000000 ∧ -1000000000 ≤ n ∧ n ≤ 1000000000
  · exact specOK_in n d w h.1 h.2.1 h.2.2.1 h.2.2.2
  · rw [ok_false n d (by omega)]
    exact specOK_out n d w (by omega)

theorem below1 {w w1 : World} {o : Obj} (hb : Below (w.alloc o).heap.size (w.alloc o) w1) : Below w.heap.size w w1 :=
  ((Below.refl _ _).alloc (Nat.le_refl _) _).trans (hb.mono (by simp))

set_option maxHeartbeats 400000 in
theorem implOK_core (n d N D c : Int) (b : Bool) (w : World)
    (HC : Hid (∀ W, Calls Try.prog 68 #[.int .i64 n, .int .i64 d] W fun e w' => e = .returned (.tuple #[.agg #[.int .i64 N, .int .i64 D], .int .i64 c]) ∧ Below W.heap.size W w'))
    (h : (c == 0) = false ∧ b = false ∨ c = 0 ∧ (N == n) = false ∧ b = false ∨ c = 0 ∧ N = n ∧ (D == d) = false ∧ b = false ∨ c = 0 ∧ N = n ∧ D = d ∧ b = true) :
    Calls Try.prog 87 #[.agg #[.int .i64 n, .int .i64 d]] w fun e w' => e = .returned (.bool b) ∧ Below w.heap.size w w' := by
  rcases h with ⟨h0, rfl⟩ | ⟨rfl, h1, rfl⟩ | ⟨rfl, rfl, h2, rfl⟩ | ⟨rfl, rfl, rfl, rfl⟩
  all_goals
    go_enter Try.func87, Try.ntmps87
    go_wp2_with fail
    refine (unhide HC _).mono ?_
    rintro e w1 ⟨rfl, hb⟩
    have hb0 := hide (below1 hb)
    obtain ⟨hc, hf⟩ := bcell hb
    have hz : w.heap.size < w1.heap.size := by have := hb.size; simp at this; omega
    have c0 := hc w.heap.size 0 (by simp)
    have c1 := hc w.heap.size 1 (by simp)
    simp [go_sem] at c0 c1
    clear hb hc hf
    go_wp2
    go_ret
    exact ⟨rfl, (unhide hb0).alloc (by omega) _⟩

theorem implOK_any (n d : Int) (w : World) (hn1 : -9223372036854775808 ≤ n) (hn2 : n ≤ 9223372036854775807) (hd1 : -9223372036854775808 ≤ d) (hd2 : d ≤ 9223372036854775807) :
    Calls Try.prog 87 #[.agg #[.int .i64 n, .int .i64 d]] w fun e w' => e = .returned (.bool (frOk n d)) ∧ Below w.heap.size w w' := by
  refine implOK_core n d (frN n d) (frD n d) (frCode n d) _ w (hide fun W => implOf_any n d W hn1 hn2 hd1 hd2) ?_
  have hok := ok_iff n d
  by_cases h0 : frCode n d = 0
  · by_cases h1 : frN n d = n
    · by_cases h2 : frD n d = d
      · exact .inr (.inr (.inr ⟨h0, h1, h2, hok.2 ⟨h0, h1, h2⟩⟩))
      · exact .inr (.inr (.inl ⟨h0, h1, by simp [h2], by rw [Bool.eq_false_iff]; intro h; exact h2 (hok.1 h).2.2⟩))
    · exact .inr (.inl ⟨h0, by simp [h1], by rw [Bool.eq_false_iff]; intro h; exact h1 (hok.1 h).2.1⟩)
  · exact .inl ⟨by simp [h0], by rw [Bool.eq_false_iff]; intro h; exact h0 (hok.1 h).1⟩
end Go.Proofs.Ytimkinpbimangaa
