/-
  The program's telling which sketches are right.
-/
import Derived.Test.YtchdmigeopmacaaOkM
import Derived.Laws.EntriesVeiled
namespace Go.Proofs.Ytchdmigeopmacaa
open Go.ChangeShapes Go.WideShapes Go.ChangeAt Go.RowKit
set_option linter.unusedVariables false
set_option linter.unusedSimpArgs false

set_option maxHeartbeats 2000000 in
theorem idx_any (n : Int) (u v : Option Addr) (p po l c l2 c2 : Nat) (rs : List Ru) (w : World) (hn : 1 ≤ n ∧ n ≤ 24) (HL : Hid (rs.length = l)) (hm : l ≤ 60)
    (HX : Hid (l ≠ 0 → u = some ⟨p, po, none⟩ ∧ p < w.heap.size ∧ RusAt w p po rs)) :
    Calls Try.prog 58 #[.slice u l c, .func (.func 44) #[.agg #[.int .i64 n, .slice v l2 c2]] #[]] w fun e w' => (∃ k : Int, e = .returned (.int .i64 k) ∧ decide (0 ≤ k) = !(rs.all (ruOk n))) ∧ Below w.heap.size w w' := by
  have HN := hide hn
  clear hn
  go_enter Try.func58, Try.ntmps58
  go_wp2_with fail
  go_loopw [8] (fun s W => ∃ i : Nat, s = .int .i64 (i : Int) ∧ i ≤ l ∧ (∀ j r, j < i → rs[j]? = some r → ruOk n r = true) ∧ Below w.heap.size w W) (fun s _ => l - (intOf s).toNat)
  case atStart => exact ⟨0, rfl, Nat.zero_le _, fun j r h => absurd h (Nat.not_lt_zero _), Below.refl _ _⟩
  case round =>
    obtain ⟨i, rfl, hi, hall, hw⟩ := hrel
    have HW := hide hw
    have HALL := hide hall
    clear hw hall
    by_cases h : i < l
    · have i1 : (i : Int) < (l : Int) := by omega
      have i0 : (0 : Int) ≤ (i : Int) := Int.natCast_nonneg _
      have iz : decide ((i : Int) < (l : Int)) = true := decide_eq_true i1
      obtain ⟨rfl, pw, pa⟩ := unhide HX (by omega)
      obtain ⟨⟨k, a, b, m⟩, hr⟩ : ∃ r, rs[i]? = some r := ⟨rs[i]'(by rw [unhide HL]; exact h), List.getElem?_eq_getElem _⟩
      obtain ⟨k0, k1, k2, k3⟩ := (pa.bel (unhide HW) pw) i _ hr
      have HR := hide hr
      simp only at k0 k1 k2 k3
      clear pa hr pw
      have HWR := hide (fun W => wrong_any n v l2 c2 k a b m W (unhide HN))
      go_wp2_with fail
      refine (unhide HWR _).mono ?_
      rintro e W1 ⟨rfl, hb⟩
      have HB := hide (bc (unhide HW) hb)
      clear hb
      cases hok : ruOk n (k, a, b, m) with
      | false =>
        have HOK := hide hok
        clear hok
        go_wp2_with fail
        go_ret
        refine ⟨⟨_, rfl, ?_⟩, unhide HB⟩
        rw [all_not (unhide HR) (unhide HOK)]
        exact decide_eq_true (by omega)
      | true =>
        have HOK := hide hok
        clear hok
        go_wp2_with fail
        go_roundw
        case rel =>
          refine ⟨i + 1, by simp, h, fun j r hj hr => ?_, unhide HB⟩
          by_cases hji : j = i
          · subst hji
            rw [unhide HR] at hr
            cases hr
            exact unhide HOK
          · exact unhide HALL j r (by omega) hr
        case measure => simp only [intOf]; omega
    · have i1 : ¬ (i : Int) < (l : Int) := by omega
      have iz : decide ((i : Int) < (l : Int)) = false := decide_eq_false i1
      go_wp2_with fail
      go_ret
      exact ⟨⟨_, rfl, by rw [all_take (by rw [unhide HL]; omega) (unhide HALL)]; rfl⟩, unhide HW⟩
theorem has_any (n : Int) (u v : Option Addr) (p po l c l2 c2 : Nat) (rs : List Ru) (w : World) (hn : 1 ≤ n ∧ n ≤ 24) (HL : Hid (rs.length = l)) (hm : l ≤ 60)
    (HX : Hid (l ≠ 0 → u = some ⟨p, po, none⟩ ∧ p < w.heap.size ∧ RusAt w p po rs)) :
    Calls Try.prog 43 #[.slice u l c, .func (.func 44) #[.agg #[.int .i64 n, .slice v l2 c2]] #[]] w fun e w' => e = .returned (.bool (!(rs.all (ruOk n)))) ∧ Below w.heap.size w w' := by
  have HI := hide (idx_any n u v p po l c l2 c2 rs w hn HL hm HX)
  clear hn HX
  go_enter Try.func43, Try.ntmps43
  go_wp2_with fail
  refine (unhide HI).mono ?_
  rintro e W1 ⟨⟨k, rfl, hk⟩, hb⟩
  have HK := hide hk
  have HB := hide hb
  clear hk hb
  go_wp2_with fail
  go_ret
  exact ⟨ret_bool (unhide HK), unhide HB⟩

set_option maxHeartbeats 2000000 in
theorem okP_any (n : Int) (u : Option Addr) (p po l c : Nat) (rs : List Ru) (w : World) (HL : Hid (rs.length = l)) (hm : l ≤ 9223372036854775807)
    (HX : Hid (l ≠ 0 → u = some ⟨p, po, none⟩ ∧ p < w.heap.size ∧ RusAt w p po rs)) :
    Calls Try.prog 21 #[skv n u l c] w fun e w' => e = .returned (.bool (skOk n rs)) ∧ Below w.heap.size w w' := by
  have HB1 := hide (fun W => btw_any n 1 24 W)
  by_cases hn : 1 ≤ n ∧ n ≤ 24
  · have en : (decide (1 ≤ n) && decide (n ≤ 24)) = true := by rw [← Bool.decide_and]; exact decide_eq_true hn
    rw [en] at HB1
    by_cases l1 : l ≤ 60
    · have t3 : decide ((l : Int) ≤ 60) = true := decide_eq_true (by omega)
      have HA := hide (fun W (hW : Below w.heap.size w W) => has_any n u u p po l c l c rs W hn HL l1 (hide fun h => ⟨(unhide HX h).1, Nat.lt_of_lt_of_le (unhide HX h).2.1 hW.size, (unhide HX h).2.2.bel hW (unhide HX h).2.1⟩))
      have e : skOk n rs = rs.all (ruOk n) := by unfold skOk; rw [decide_eq_true (p := 1 ≤ n ∧ n ≤ 24) hn, decide_eq_true (p := rs.length ≤ 60) (by rw [unhide HL]; omega)]; rfl
      have HE := hide e
      have HN := hide hn
      clear en hn e
      go_enter Try.func21, Try.ntmps21
      go_wp2_with fail
      refine (unhide HB1 _).mono ?_
      rintro e W1 ⟨rfl, rfl⟩
      go_wp2_with fail
      refine (unhide HA _ (ba (Below.refl _ _) _)).mono ?_
      rintro e W1 ⟨rfl, hb⟩
      have HB := hide (bc (ba (Below.refl _ _) _) hb)
      clear hb
      go_wp2_with fail
      go_ret
      exact ⟨ret_bool (unhide HE).symm, unhide HB⟩
    · have t3 : decide ((l : Int) ≤ 60) = false := decide_eq_false (by omega)
      have e : skOk n rs = false := by unfold skOk; rw [decide_eq_false (p := rs.length ≤ 60) (by rw [unhide HL]; omega)]; simp
      rw [e]
      clear en hn
      go_enter Try.func21, Try.ntmps21
      go_wp2_with fail
      refine (unhide HB1 _).mono ?_
      rintro e W1 ⟨rfl, rfl⟩
      go_wp2_with fail
      go_ret
      exact ⟨rfl, ba (Below.refl _ _) _⟩
  · have en : (decide (1 ≤ n) && decide (n ≤ 24)) = false := by rw [← Bool.decide_and]; exact decide_eq_false hn
    rw [en] at HB1
    have e : skOk n rs = false := by unfold skOk; rw [decide_eq_false (p := 1 ≤ n ∧ n ≤ 24) hn]; rfl
    rw [e]
    clear en hn
    go_enter Try.func21, Try.ntmps21
    go_wp2_with fail
    refine (unhide HB1 _).mono ?_
    rintro e W1 ⟨rfl, rfl⟩
    go_wp2_with fail
    go_ret
    exact ⟨rfl, ba (Below.refl _ _) _⟩
end Go.Proofs.Ytchdmigeopmacaa
