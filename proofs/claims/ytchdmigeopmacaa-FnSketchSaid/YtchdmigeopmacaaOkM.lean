/-
  Which sketches are right: both sides tell it alike.
-/
import Derived.Test.YtchdmigeopmacaaRus
namespace Go.Proofs.Ytchdmigeopmacaa
open Go.ChangeShapes Go.WideShapes Go.ChangeAt Go.RowKit
set_option linter.unusedVariables false
set_option linter.unusedSimpArgs false

abbrev skv (n : Int) (u : Option Addr) (l c : Nat) : Value := .agg #[.int .i64 n, .slice u l c]
theorem all_take {n : Int} {rs : List Ru} {i : Nat} (h : rs.length ≤ i) (ha : ∀ j r, j < i → rs[j]? = some r → ruOk n r = true) : rs.all (ruOk n) = true := by
  rw [List.all_eq_true]
  intro r hr
  obtain ⟨j, hj, he⟩ := List.getElem_of_mem hr
  exact ha j r (by omega) (by rw [List.getElem?_eq_getElem hj, he])
theorem all_not {n : Int} {rs : List Ru} {i : Nat} {r : Ru} (h : rs[i]? = some r) (ho : ruOk n r = false) : rs.all (ruOk n) = false := by
  cases hb : rs.all (ruOk n) with
  | false => rfl
  | true =>
    rw [List.all_eq_true] at hb
    rw [hb r (List.mem_of_getElem? h)] at ho
    cases ho
theorem okr_k1 {n k a b m : Int} (h : k < 1) : ruOk n (k, a, b, m) = false := decide_eq_false fun ⟨h1, _⟩ => by have : 1 ≤ k := h1.1; omega
theorem okr_k2 {n k a b m : Int} (h : 9 < k) : ruOk n (k, a, b, m) = false := decide_eq_false fun ⟨h1, _⟩ => by have : k ≤ 9 := h1.2; omega
theorem okr_a1 {n k a b m : Int} (h : a < 0) : ruOk n (k, a, b, m) = false := decide_eq_false fun ⟨_, h1, _⟩ => by have : 0 ≤ a := h1.1; omega
theorem okr_a2 {n k a b m : Int} (h : n ≤ a) : ruOk n (k, a, b, m) = false := decide_eq_false fun ⟨_, h1, _⟩ => by have : a < n := h1.2; omega
theorem okr_b1 {n k a b m : Int} (hk : 3 ≤ k) (h : ¬ (0 ≤ b ∧ b < n)) : ruOk n (k, a, b, m) = false := decide_eq_false fun ⟨_, _, h1, _⟩ => by rw [if_pos hk] at h1; exact h h1
theorem okr_b2 {n k a b m : Int} (hk : ¬ 3 ≤ k) (h : ¬ b = 0) : ruOk n (k, a, b, m) = false := decide_eq_false fun ⟨_, _, h1, _⟩ => by rw [if_neg hk] at h1; exact h h1
theorem okr_m1 {n k a b m : Int} (hk : k ≤ 6) (h : ¬ (-100000 ≤ m ∧ m ≤ 100000)) : ruOk n (k, a, b, m) = false := decide_eq_false fun ⟨_, _, _, h1⟩ => by rw [if_pos hk] at h1; exact h h1
theorem okr_m2 {n k a b m : Int} (hk : ¬ k ≤ 6) (h : ¬ m = 0) : ruOk n (k, a, b, m) = false := decide_eq_false fun ⟨_, _, _, h1⟩ => by rw [if_neg hk] at h1; exact h h1

theorem okr_yes {n k a b m : Int} (hk : 1 ≤ k ∧ k ≤ 9) (ha : 0 ≤ a ∧ a < n) (hb : (3 ≤ k ∧ 0 ≤ b ∧ b < n) ∨ (k < 3 ∧ b = 0)) (hm : (k ≤ 6 ∧ -100000 ≤ m ∧ m ≤ 100000) ∨ (6 < k ∧ m = 0)) : ruOk n (k, a, b, m) = true := by
  refine decide_eq_true ⟨hk, ha, ?_, ?_⟩
  · show if 3 ≤ k then 0 ≤ b ∧ b < n else b = 0
    rcases hb with ⟨h, h2⟩ | ⟨h, h2⟩
    · rw [if_pos h]; exact h2
    · rw [if_neg (by omega)]; exact h2
  · show if k ≤ 6 then -100000 ≤ m ∧ m ≤ 100000 else m = 0
    rcases hm with ⟨h, h2⟩ | ⟨h, h2⟩
    · rw [if_pos h]; exact h2
    · rw [if_neg (by omega)]; exact h2

set_option maxHeartbeats 4000000 in
set_option maxRecDepth 10000 in
theorem okM_any (n : Int) (u : Option Addr) (p po l c : Nat) (rs : List Ru) (w : World) (HL : Hid (rs.length = l)) (hm : l ≤ 9223372036854775807)
    (HX : Hid (l ≠ 0 → u = some ⟨p, po, none⟩ ∧ p < w.heap.size ∧ RusAt w p po rs)) :
    Calls Try.prog 20 #[skv n u l c] w fun e w' => e = .returned (.bool (skOk n rs)) ∧ Below w.heap.size w w' := by
  by_cases n1 : n < 1
  · have t1 : decide (n < 1) = true := decide_eq_true n1
    have e : skOk n rs = false := by unfold skOk; rw [decide_eq_false (p := 1 ≤ n ∧ n ≤ 24) (by omega)]; rfl
    rw [e]
    go_enter Try.func20, Try.ntmps20
    go_wp2
    go_ret
    exact ⟨rfl, ba (Below.refl _ _) _⟩
  · by_cases n2 : 24 < n
    · have t1 : decide (n < 1) = false := decide_eq_false n1
      have t2 : decide (24 < n) = true := decide_eq_true n2
      have e : skOk n rs = false := by unfold skOk; rw [decide_eq_false (p := 1 ≤ n ∧ n ≤ 24) (by omega)]; rfl
      rw [e]
      go_enter Try.func20, Try.ntmps20
      go_wp2
      go_ret
      exact ⟨rfl, ba (Below.refl _ _) _⟩
    · by_cases l1 : 60 < l
      · have t1 : decide (n < 1) = false := decide_eq_false n1
        have t2 : decide (24 < n) = false := decide_eq_false n2
        have t3 : decide ((60 : Int) < (l : Int)) = true := decide_eq_true (by omega)
        have e : skOk n rs = false := by unfold skOk; rw [decide_eq_false (p := rs.length ≤ 60) (by rw [unhide HL]; omega)]; simp
        rw [e]
        go_enter Try.func20, Try.ntmps20
        go_wp2
        go_ret
        exact ⟨rfl, ba (Below.refl _ _) _⟩
      · have t1 : decide (n < 1) = false := decide_eq_false n1
        have t2 : decide (24 < n) = false := decide_eq_false n2
        have t3 : decide ((60 : Int) < (l : Int)) = false := decide_eq_false (by omega)
        have e : skOk n rs = rs.all (ruOk n) := by unfold skOk; rw [decide_eq_true (p := 1 ≤ n ∧ n ≤ 24) (by omega), decide_eq_true (p := rs.length ≤ 60) (by rw [unhide HL]; omega)]; rfl
        have HE := hide e
        have HC := hide (And.intro (Int.not_lt.1 n1) (Int.not_lt.1 n2))
        have HS := hide (Nat.not_lt.1 l1)
        clear e n1 n2 l1 hm
        go_enter Try.func20, Try.ntmps20
        go_wp2_with fail
        go_loopw [3] (fun s W => ∃ i : Nat, s = .int .i64 (i : Int) ∧ i ≤ l ∧ (∀ j r, j < i → rs[j]? = some r → ruOk n r = true) ∧ W.cell? ⟨w.heap.size, 0, none⟩ = some (.int .i64 n) ∧ W.cell? ⟨w.heap.size, 1, none⟩ = some (.slice u l c) ∧ Below w.heap.size w W) (fun s _ => l - (intOf s).toNat)
        case atStart => exact ⟨0, rfl, Nat.zero_le _, fun j r h => absurd h (Nat.not_lt_zero _), by simp [go_sem], by simp [go_sem], ba (Below.refl _ _) _⟩
        case round =>
          obtain ⟨i, rfl, hi, hall, cz0, cz1, hw⟩ := hrel
          have HW := hide hw
          have HALL := hide hall
          clear hw hall
          by_cases h : i < l
          · have i1 : (i : Int) < (l : Int) := by omega
            have i0 : (0 : Int) ≤ (i : Int) := Int.natCast_nonneg _
            have iz : decide ((i : Int) < (l : Int)) = true := decide_eq_true i1
            have hs := unhide HS
            obtain ⟨rfl, pw, pa⟩ := unhide HX (by omega)
            obtain ⟨⟨k, a, b, m⟩, hr⟩ : ∃ r, rs[i]? = some r := ⟨rs[i]'(by rw [unhide HL]; exact h), List.getElem?_eq_getElem _⟩
            obtain ⟨k0, k1, k2, k3⟩ := (pa.bel (unhide HW) pw) i _ hr
            have HR := hide hr
            simp only at k0 k1 k2 k3
            clear pa hr pw
            have lt0 := cell_lt cz0
            have HWT := hide (fun W => wants_any k W)
            by_cases c1 : k < 1
            · have X := hide c1
              have f1 : decide (k < 1) = true := decide_eq_true c1
              go_wp2_with fail
              go_ret
              exact ⟨ret_bool (by rw [unhide HE]; exact (all_not (unhide HR) (okr_k1 (unhide X))).symm), by repeat (first | exact unhide HW | refine ba ?_ _)⟩
            · skip
              by_cases c2 : 9 < k
              · have X := hide c2
                have f1 : decide (k < 1) = false := decide_eq_false c1
                have f2 : decide (9 < k) = true := decide_eq_true c2
                go_wp2_with fail
                go_ret
                exact ⟨ret_bool (by rw [unhide HE]; exact (all_not (unhide HR) (okr_k2 (unhide X))).symm), by repeat (first | exact unhide HW | refine ba ?_ _)⟩
              · skip
                by_cases c3 : a < 0
                · have X := hide c3
                  have f1 : decide (k < 1) = false := decide_eq_false c1
                  have f2 : decide (9 < k) = false := decide_eq_false c2
                  have f3 : decide (a < 0) = true := decide_eq_true c3
                  go_wp2_with fail
                  go_ret
                  exact ⟨ret_bool (by rw [unhide HE]; exact (all_not (unhide HR) (okr_a1 (unhide X))).symm), by repeat (first | exact unhide HW | refine ba ?_ _)⟩
                · skip
                  by_cases c4 : n ≤ a
                  · have X := hide c4
                    have f1 : decide (k < 1) = false := decide_eq_false c1
                    have f2 : decide (9 < k) = false := decide_eq_false c2
                    have f3 : decide (a < 0) = false := decide_eq_false c3
                    have f4 : decide (n ≤ a) = true := decide_eq_true c4
                    go_wp2_with fail
                    go_ret
                    exact ⟨ret_bool (by rw [unhide HE]; exact (all_not (unhide HR) (okr_a2 (unhide X))).symm), by repeat (first | exact unhide HW | refine ba ?_ _)⟩
                  · skip
                    have f1 : decide (k < 1) = false := decide_eq_false c1
                    have f2 : decide (9 < k) = false := decide_eq_false c2
                    have f3 : decide (a < 0) = false := decide_eq_false c3
                    have f4 : decide (n ≤ a) = false := decide_eq_false c4
                    by_cases c5 : 3 ≤ k
                    · have f5 : decide (3 ≤ k) = true := decide_eq_true c5
                      by_cases d1 : b < 0
                      · have g1 : decide (b < 0) = true := decide_eq_true d1
                        have X : Hid (ruOk n (k, a, b, m) = false) := hide (okr_b1 c5 (by omega))
                        go_wp2_with fail
                        refine (unhide HWT _).mono ?_
                        rintro e W1 ⟨rfl, rfl⟩
                        go_wp2_with fail
                        go_ret
                        exact ⟨ret_bool (by rw [unhide HE]; exact (all_not (unhide HR) (unhide X)).symm), by repeat (first | exact unhide HW | refine ba ?_ _)⟩
                      · have g1 : decide (b < 0) = false := decide_eq_false d1
                        by_cases d2 : n ≤ b
                        · have g2 : decide (n ≤ b) = true := decide_eq_true d2
                          have X : Hid (ruOk n (k, a, b, m) = false) := hide (okr_b1 c5 (by omega))
                          go_wp2_with fail
                          refine (unhide HWT _).mono ?_
                          rintro e W1 ⟨rfl, rfl⟩
                          go_wp2_with fail
                          go_ret
                          exact ⟨ret_bool (by rw [unhide HE]; exact (all_not (unhide HR) (unhide X)).symm), by repeat (first | exact unhide HW | refine ba ?_ _)⟩
                        · have g2 : decide (n ≤ b) = false := decide_eq_false d2
                          by_cases c6 : k ≤ 6
                          · have f6 : decide (k ≤ 6) = true := decide_eq_true c6
                            by_cases c7 : m < -100000
                            · have f7 : decide (m < -100000) = true := decide_eq_true c7
                              have X : Hid (ruOk n (k, a, b, m) = false) := hide (okr_m1 c6 (by omega))
                              go_wp2_with fail
                              refine (unhide HWT _).mono ?_
                              rintro e W1 ⟨rfl, rfl⟩
                              go_wp2_with fail
                              go_ret
                              exact ⟨ret_bool (by rw [unhide HE]; exact (all_not (unhide HR) (unhide X)).symm), by repeat (first | exact unhide HW | refine ba ?_ _)⟩
                            · have f7 : decide (m < -100000) = false := decide_eq_false c7
                              by_cases c8 : 100000 < m
                              · have f8 : decide (100000 < m) = true := decide_eq_true c8
                                have X : Hid (ruOk n (k, a, b, m) = false) := hide (okr_m1 c6 (by omega))
                                go_wp2_with fail
                                refine (unhide HWT _).mono ?_
                                rintro e W1 ⟨rfl, rfl⟩
                                go_wp2_with fail
                                go_ret
                                exact ⟨ret_bool (by rw [unhide HE]; exact (all_not (unhide HR) (unhide X)).symm), by repeat (first | exact unhide HW | refine ba ?_ _)⟩
                              · have f8 : decide (100000 < m) = false := decide_eq_false c8
                                have X : Hid (ruOk n (k, a, b, m) = true) := hide (okr_yes (by omega) (by omega) (by first | (left; omega) | (right; omega)) (by first | (left; omega) | (right; omega)))
                                go_wp2_with fail
                                refine (unhide HWT _).mono ?_
                                rintro e W1 ⟨rfl, rfl⟩
                                go_wp2_with fail
                                go_roundw
                                case rel =>
                                  refine ⟨i + 1, by simp, h, fun j r hj hr => ?_, by repeat (first | exact cz0 | refine ka ?_), by repeat (first | exact cz1 | refine ka ?_), by repeat (first | exact unhide HW | refine ba ?_ _)⟩
                                  by_cases hji : j = i
                                  · subst hji
                                    rw [unhide HR] at hr
                                    cases hr
                                    exact unhide X
                                  · exact unhide HALL j r (by omega) hr
                                case measure => simp only [intOf]; omega
                          · have f6 : decide (k ≤ 6) = false := decide_eq_false c6
                            by_cases c7 : m = 0
                            · have f7 : (m != 0) = false := by simp [c7]
                              have X : Hid (ruOk n (k, a, b, m) = true) := hide (okr_yes (by omega) (by omega) (by first | (left; omega) | (right; omega)) (by first | (left; omega) | (right; omega)))
                              go_wp2_with fail
                              refine (unhide HWT _).mono ?_
                              rintro e W1 ⟨rfl, rfl⟩
                              go_wp2_with fail
                              go_roundw
                              case rel =>
                                refine ⟨i + 1, by simp, h, fun j r hj hr => ?_, by repeat (first | exact cz0 | refine ka ?_), by repeat (first | exact cz1 | refine ka ?_), by repeat (first | exact unhide HW | refine ba ?_ _)⟩
                                by_cases hji : j = i
                                · subst hji
                                  rw [unhide HR] at hr
                                  cases hr
                                  exact unhide X
                                · exact unhide HALL j r (by omega) hr
                              case measure => simp only [intOf]; omega
                            · have f7 : (m != 0) = true := by simp [c7]
                              have X : Hid (ruOk n (k, a, b, m) = false) := hide (okr_m2 c6 c7)
                              go_wp2_with fail
                              refine (unhide HWT _).mono ?_
                              rintro e W1 ⟨rfl, rfl⟩
                              go_wp2_with fail
                              go_ret
                              exact ⟨ret_bool (by rw [unhide HE]; exact (all_not (unhide HR) (unhide X)).symm), by repeat (first | exact unhide HW | refine ba ?_ _)⟩
                    · have f5 : decide (3 ≤ k) = false := decide_eq_false c5
                      by_cases d1 : b = 0
                      · have g1 : (b != 0) = false := by simp [d1]
                        by_cases c6 : k ≤ 6
                        · have f6 : decide (k ≤ 6) = true := decide_eq_true c6
                          by_cases c7 : m < -100000
                          · have f7 : decide (m < -100000) = true := decide_eq_true c7
                            have X : Hid (ruOk n (k, a, b, m) = false) := hide (okr_m1 c6 (by omega))
                            go_wp2_with fail
                            refine (unhide HWT _).mono ?_
                            rintro e W1 ⟨rfl, rfl⟩
                            go_wp2_with fail
                            go_ret
                            exact ⟨ret_bool (by rw [unhide HE]; exact (all_not (unhide HR) (unhide X)).symm), by repeat (first | exact unhide HW | refine ba ?_ _)⟩
                          · have f7 : decide (m < -100000) = false := decide_eq_false c7
                            by_cases c8 : 100000 < m
                            · have f8 : decide (100000 < m) = true := decide_eq_true c8
                              have X : Hid (ruOk n (k, a, b, m) = false) := hide (okr_m1 c6 (by omega))
                              go_wp2_with fail
                              refine (unhide HWT _).mono ?_
                              rintro e W1 ⟨rfl, rfl⟩
                              go_wp2_with fail
                              go_ret
                              exact ⟨ret_bool (by rw [unhide HE]; exact (all_not (unhide HR) (unhide X)).symm), by repeat (first | exact unhide HW | refine ba ?_ _)⟩
                            · have f8 : decide (100000 < m) = false := decide_eq_false c8
                              have X : Hid (ruOk n (k, a, b, m) = true) := hide (okr_yes (by omega) (by omega) (by first | (left; omega) | (right; omega)) (by first | (left; omega) | (right; omega)))
                              go_wp2_with fail
                              refine (unhide HWT _).mono ?_
                              rintro e W1 ⟨rfl, rfl⟩
                              go_wp2_with fail
                              go_roundw
                              case rel =>
                                refine ⟨i + 1, by simp, h, fun j r hj hr => ?_, by repeat (first | exact cz0 | refine ka ?_), by repeat (first | exact cz1 | refine ka ?_), by repeat (first | exact unhide HW | refine ba ?_ _)⟩
                                by_cases hji : j = i
                                · subst hji
                                  rw [unhide HR] at hr
                                  cases hr
                                  exact unhide X
                                · exact unhide HALL j r (by omega) hr
                              case measure => simp only [intOf]; omega
                        · exact absurd (show k ≤ 6 by omega) c6
                      · have g1 : (b != 0) = true := by simp [d1]
                        have X : Hid (ruOk n (k, a, b, m) = false) := hide (okr_b2 c5 d1)
                        go_wp2_with fail
                        refine (unhide HWT _).mono ?_
                        rintro e W1 ⟨rfl, rfl⟩
                        go_wp2_with fail
                        go_ret
                        exact ⟨ret_bool (by rw [unhide HE]; exact (all_not (unhide HR) (unhide X)).symm), by repeat (first | exact unhide HW | refine ba ?_ _)⟩
          · have i1 : ¬ (i : Int) < (l : Int) := by omega
            have iz : decide ((i : Int) < (l : Int)) = false := decide_eq_false i1
            go_wp2_with fail
            go_ret
            exact ⟨ret_bool (by rw [unhide HE]; exact (all_take (by rw [unhide HL]; omega) (unhide HALL)).symm), unhide HW⟩
end Go.Proofs.Ytchdmigeopmacaa
