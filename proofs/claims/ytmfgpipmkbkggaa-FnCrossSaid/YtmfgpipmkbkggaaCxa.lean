/-
  The laws' onLine and between, of a spot that two segments have in common.
-/
import Derived.Test.YtmfgpipmkbkggaaCrosses
import Derived.Test.YtmfgpipmkbkggaaCxMath
import Derived.Test.YtmfgpipmkbkggaaPof
namespace Go.Proofs.Ytmfgpipmkbkggaa
open Go.ChangeShapes Go.WideShapes Go.ChangeAt Go.RowKit
set_option linter.unusedVariables false
set_option linter.unusedSimpArgs false

set_option maxHeartbeats 1000000 in
theorem onLine_core (a1 a2 b1 b2 x y d e1 e2 f1 f2 p1 p2 : Int) (w : World) (ha1 : -100000 ≤ a1 ∧ a1 ≤ 100000) (ha2 : -100000 ≤ a2 ∧ a2 ≤ 100000) (hb1 : -100000 ≤ b1 ∧ b1 ≤ 100000) (hb2 : -100000 ≤ b2 ∧ b2 ≤ 100000)
    (q1 : b1 - a1 = e1) (q2 : b2 - a2 = e2) (m1 : a2 * d = p2) (m2 : a1 * d = p1) (bp1 : -8000000000000000 ≤ p1 ∧ p1 ≤ 8000000000000000) (bp2 : -8000000000000000 ≤ p2 ∧ p2 ≤ 8000000000000000) (bx : -8000000000000000 ≤ x ∧ x ≤ 8000000000000000) (bY : -8000000000000000 ≤ y ∧ y ≤ 8000000000000000)
    (r1 : y - p2 = f2) (r2 : x - p1 = f1) (HE : Hid (e1 * f2 = e2 * f1)) :
    Calls Try.prog 10 #[.agg #[.int .i64 a1, .int .i64 a2], .agg #[.int .i64 b1, .int .i64 b2], .agg #[.int .i64 x, .int .i64 y, .int .i64 d]] w fun e w' => e = .returned (.bool true) ∧ Below w.heap.size w w' := by
  have w1 : IntKind.i64.wrap e1 = e1 := wrap_i (by omega) (by omega)
  have w2 : IntKind.i64.wrap e2 = e2 := wrap_i (by omega) (by omega)
  have w3 : IntKind.i64.wrap p2 = p2 := wrap_i (by omega) (by omega)
  have w4 : IntKind.i64.wrap p1 = p1 := wrap_i (by omega) (by omega)
  have w5 : IntKind.i64.wrap f1 = f1 := wrap_i (by omega) (by omega)
  have w6 : IntKind.i64.wrap f2 = f2 := wrap_i (by omega) (by omega)
  have heq := unhide HE
  go_enter Try.func10, Try.ntmps10
  go_wp2_with fail
  go_ret
  exact ⟨ret_bool (by first | rfl | (simp [go_sem, heq])), by repeat (first | exact Below.refl _ _ | refine ba ?_ _ | refine Below.drew ?_)⟩

set_option maxHeartbeats 1000000 in
theorem between_core (a1 a2 b1 b2 x y d m1 m2 n1 n2 : Int) (w : World)
    (q1 : min a1 b1 * d = m1) (q2 : max a1 b1 * d = m2) (q3 : min a2 b2 * d = n1) (q4 : max a2 b2 * d = n2)
    (b1' : -8000000000000000 ≤ m1 ∧ m1 ≤ 8000000000000000) (b2' : -8000000000000000 ≤ m2 ∧ m2 ≤ 8000000000000000) (b3' : -8000000000000000 ≤ n1 ∧ n1 ≤ 8000000000000000) (b4' : -8000000000000000 ≤ n2 ∧ n2 ≤ 8000000000000000)
    (h1 : m1 ≤ x) (h2 : x ≤ m2) (h3 : n1 ≤ y) (h4 : y ≤ n2) :
    Calls Try.prog 11 #[.agg #[.int .i64 a1, .int .i64 a2], .agg #[.int .i64 b1, .int .i64 b2], .agg #[.int .i64 x, .int .i64 y, .int .i64 d]] w fun e w' => e = .returned (.bool true) ∧ Below w.heap.size w w' := by
  have w1 : IntKind.i64.wrap m1 = m1 := wrap_i (by omega) (by omega)
  have w2 : IntKind.i64.wrap m2 = m2 := wrap_i (by omega) (by omega)
  have w3 : IntKind.i64.wrap n1 = n1 := wrap_i (by omega) (by omega)
  have w4 : IntKind.i64.wrap n2 = n2 := wrap_i (by omega) (by omega)
  have d1 : decide (m1 ≤ x) = true := decide_eq_true h1
  have d2 : decide (x ≤ m2) = true := decide_eq_true h2
  have d3 : decide (n1 ≤ y) = true := decide_eq_true h3
  have d4 : decide (y ≤ n2) = true := decide_eq_true h4
  go_enter Try.func11, Try.ntmps11
  go_wp2_with fail
  go_ret
  exact ⟨rfl, by repeat (first | exact Below.refl _ _ | refine ba ?_ _ | refine Below.drew ?_)⟩
theorem md {z d : Int} (hz : -100000 ≤ z ∧ z ≤ 100000) (hd : 1 ≤ d ∧ d ≤ 80000000000) : -8000000000000000 ≤ z * d ∧ z * d ≤ 8000000000000000 := mul_bd z d 100000 80000000000 hz.1 hz.2 (by omega) hd.2
theorem spot_bd {a b : Pt} {q : Sp} (ha : ptOk a = true) (hb : ptOk b = true) (hd : 1 ≤ q.2.2 ∧ q.2.2 ≤ 80000000000) (h : btw a b q) : (-8000000000000000 ≤ q.1 ∧ q.1 ≤ 8000000000000000) ∧ -8000000000000000 ≤ q.2.1 ∧ q.2.1 ≤ 8000000000000000 := by
  have h1 := ok_bd ha
  have h2 := ok_bd hb
  obtain ⟨b1, b2, b3, b4⟩ := h
  have m1 := md (z := min a.1 b.1) (by omega) hd
  have m2 := md (z := max a.1 b.1) (by omega) hd
  have m3 := md (z := min a.2 b.2) (by omega) hd
  have m4 := md (z := max a.2 b.2) (by omega) hd
  omega
theorem onLine_any (a b : Pt) (q : Sp) (w : World) (ha : ptOk a = true) (hb : ptOk b = true) (hd : 1 ≤ q.2.2 ∧ q.2.2 ≤ 80000000000) (ho : onL a b q) (h : btw a b q) :
    Calls Try.prog 10 #[ptv a, ptv b, spv q] w fun e w' => e = .returned (.bool true) ∧ Below w.heap.size w w' := by
  have h1 := ok_bd ha
  have h2 := ok_bd hb
  have sb := spot_bd ha hb hd h
  exact onLine_core a.1 a.2 b.1 b.2 q.1 q.2.1 q.2.2 _ _ _ _ _ _ w ⟨h1.1, h1.2.1⟩ h1.2.2 ⟨h2.1, h2.2.1⟩ h2.2.2 rfl rfl rfl rfl (md (by omega) hd) (md (by omega) hd) sb.1 sb.2 rfl rfl (hide ho)
theorem between_any (a b : Pt) (q : Sp) (w : World) (ha : ptOk a = true) (hb : ptOk b = true) (hd : 1 ≤ q.2.2 ∧ q.2.2 ≤ 80000000000) (h : btw a b q) :
    Calls Try.prog 11 #[ptv a, ptv b, spv q] w fun e w' => e = .returned (.bool true) ∧ Below w.heap.size w w' := by
  have h1 := ok_bd ha
  have h2 := ok_bd hb
  exact between_core a.1 a.2 b.1 b.2 q.1 q.2.1 q.2.2 _ _ _ _ w rfl rfl rfl rfl (md (by omega) hd) (md (by omega) hd) (md (by omega) hd) (md (by omega) hd) h.1 h.2.1 h.2.2.1 h.2.2.2
theorem red_le {X Y D : Int} (hD : 0 < D) : (red X Y D).2.2 ≤ D := by
  obtain ⟨g, hg, _, _, e3⟩ := red_parts X Y D hD
  have h1 := red_one_le (X := X) (Y := Y) hD
  generalize (red X Y D).2.2 = dd at *
  have := Int.mul_le_mul_of_nonneg_left (show (1 : Int) ≤ g by omega) (show 0 ≤ dd by omega)
  omega
theorem meet_d (a b c d : Pt) : (∀ q ∈ meet a b c d, q.2.2 = 1) ∧ (meet a b c d).length ≤ 2 := by
  unfold meet
  simp only
  generalize (if ltp a c = true then c else a) = F
  generalize (if ltp d b = true then d else b) = T
  by_cases h : F = T
  · rw [if_pos h]
    exact ⟨fun q hq => by rw [List.mem_singleton] at hq; subst hq; rfl, by simp⟩
  · rw [if_neg h]
    by_cases h2 : ltp F T = true
    · rw [if_pos h2]
      refine ⟨fun q hq => ?_, by simp⟩
      simp only [List.mem_cons, List.not_mem_nil, or_false] at hq
      rcases hq with rfl | rfl <;> rfl
    · rw [if_neg h2]
      exact ⟨(fun q hq => by cases hq), by simp⟩
theorem along_d (a b c d : Pt) : ∀ q ∈ along a b c d, q.2.2 = 1 := (meet_d _ _ _ _).1
theorem cross_d {a b c d : Pt} (ha : ptOk a = true) (hb : ptOk b = true) (hc : ptOk c = true) (hd : ptOk d = true) : ∀ q ∈ cross a b c d, q.2.2 ≤ 80000000000 := by
  intro q hq
  have hw := acr_bd (sub b a) (sub d c) (sub_bd hb ha) (sub_bd hd hc)
  unfold cross at hq
  simp only at hq
  generalize acr (sub b a) (sub d c) = w at *
  by_cases h0 : w = 0
  · rw [if_pos h0] at hq
    split at hq
    · cases hq
    · rw [along_d _ _ _ _ q hq]
      omega
  · rw [if_neg h0] at hq
    split at hq
    · rw [List.mem_singleton] at hq
      subst hq
      rcases Int.lt_or_gt_of_ne h0 with hn | hp
      · have := red_le (X := a.1 * (w * sgn w) + (b.1 - a.1) * (acr (sub c a) (sub d c) * sgn w)) (Y := a.2 * (w * sgn w) + (b.2 - a.2) * (acr (sub c a) (sub d c) * sgn w)) (D := w * sgn w) (by rw [sgn_neg hn]; omega)
        have e : w * sgn w ≤ 80000000000 := by rw [sgn_neg hn]; omega
        omega
      · have := red_le (X := a.1 * (w * sgn w) + (b.1 - a.1) * (acr (sub c a) (sub d c) * sgn w)) (Y := a.2 * (w * sgn w) + (b.2 - a.2) * (acr (sub c a) (sub d c) * sgn w)) (D := w * sgn w) (by rw [sgn_pos hp]; omega)
        have e : w * sgn w ≤ 80000000000 := by rw [sgn_pos hp]; omega
        omega
    · cases hq
theorem flatS_at {L : List Sp} {i : Nat} {q : Sp} (h : L[i]? = some q) : (flatS L)[i * 3]? = some q.1 ∧ (flatS L)[i * 3 + 1]? = some q.2.1 ∧ (flatS L)[i * 3 + 2]? = some q.2.2 := by
  induction L generalizing i with
  | nil => cases h
  | cons x L ih =>
    cases i with
    | zero =>
      simp only [List.getElem?_cons_zero, Option.some.injEq] at h
      subst h
      exact ⟨rfl, rfl, rfl⟩
    | succ i =>
      rw [List.getElem?_cons_succ] at h
      have := ih h
      rw [show (i + 1) * 3 = i * 3 + 1 + 1 + 1 by omega]
      exact this
theorem sgn_bd (n : Int) : -1 ≤ sgn n ∧ sgn n ≤ 1 := by
  rcases sgn_three n with h | h | h <;> omega
theorem cross_len (a b c d : Pt) : (cross a b c d).length ≤ 2 := by
  unfold cross
  simp only
  by_cases h0 : acr (sub b a) (sub d c) = 0
  · rw [if_pos h0]
    by_cases h1 : side a b c ≠ 0 ∨ side c d a ≠ 0
    · rw [if_pos h1]
      exact Nat.zero_le _
    · rw [if_neg h1]
      exact (meet_d _ _ _ _).2
  · rw [if_neg h0]
    split
    · show 1 ≤ 2
      omega
    · exact Nat.zero_le _
end Go.Proofs.Ytmfgpipmkbkggaa
