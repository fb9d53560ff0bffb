/-
  Whether a stock and a part go together: both sides.
-/
import Derived.Test.YtjhldjojkaphkaaPrs
import Derived.Test.YtjhldjojkaphkaaRst
import Derived.Test.YtjhldjojkaphkaaFlm
namespace Go.Proofs.Ytjhldjojkaphkaa
open Go.ChangeShapes Go.WideShapes Go.ChangeAt Go.RowKit
set_option linter.unusedVariables false
set_option linter.unusedSimpArgs false

set_option maxHeartbeats 2000000 in
theorem prM_any (R W H : Int) (u : Option Addr) (p po n c : Nat) (A : List Int) (W' H' : Int) (u' : Option Addr) (p' po' n' c' : Nat) (B : List Int) (w : World)
    (hl : A.length = n) (hn : n ≤ 9223372036854775807) (hu : Its w u p po A) (hl' : B.length = n') (hn' : n' ≤ 9223372036854775807) (hu' : Its w u' p' po' B) :
    Calls Try.prog 33 #[fldV W H u n c, fldV W' H' u' n' c', .int .i64 R] w fun e w' => e = .returned (.bool (stB W H A W' H' B && (decide (0 ≤ R) && decide (R ≤ 3)))) ∧ Below w.heap.size w w' := by
  have HB := hide (boxs w W H u n c W' H' u' n' c')
  have HA := hide (fun X (hX : Below w.heap.size w X) => fokM_any W H u p po n c A X hl hn (hu.bel hX))
  have HC := hide (fun X (hX : Below w.heap.size w X) => fokM_any W' H' u' p' po' n' c' B X hl' hn' (hu'.bel hX))
  have HTL := hide (fun X => tlM_any R X)
  have HV := hide (vb_new2 w 25 [.int .i64 W', .int .i64 H', .slice u' n' c'] (.cells #[.int .i64 W, .int .i64 H, .slice u n c] 25))
  have HV0 := hide (vb_new1 w 25 [.int .i64 W, .int .i64 H, .slice u n c] (.cells #[.int .i64 W', .int .i64 H', .slice u' n' c'] 25))
  have HUA0 := hide hu
  have HUB0 := hide hu'
  have HLA := hide hl
  have HLB := hide hl'
  have n0 : (0 : Int) ≤ (n' : Int) := Int.natCast_nonneg _
  by_cases hp : FPair W H A W' H' B
  · rw [show fokB W H A = true from decide_eq_true hp.a] at HA
    rw [show fokB W' H' B = true from decide_eq_true hp.b] at HC
    have t1 : (W != W') = false := by simp [hp.w]
    have t2 : (H != H') = false := by simp [hp.h]
    have HSB : Hid (stB W H A W' H' B = under A B) := hide (by unfold stB; rw [show pairB W H A W' H' B = true from decide_eq_true hp, Bool.true_and])
    have HLE : Hid (n' = n) := hide (by have := hp.len; omega)
    have HNS : Hid (n ≤ 576) := hide (by have := hp.a.small; omega)
    have hns : n' ≤ 576 := by have := unhide HNS; have := unhide HLE; omega
    clear hp hl hl' hu hu'
    unfold fldV at *
    generalize (decide (0 ≤ R) && decide (R ≤ 3)) = rb at *
    go_enter Try.func33, Try.ntmps33
    go_wp2_with fail
    refine (unhide HA _ (unhide HB)).mono ?_
    rintro e W1 ⟨rfl, hb1⟩
    have v1 := (unhide HV).bel hb1
    have k0 := v1.cell (m := 0) rfl
    have k1 := v1.cell (m := 1) rfl
    have k2 := v1.cell (m := 2) rfl
    have HV1 := hide v1
    have HV01 := hide ((unhide HV0).bel hb1)
    have HB1 := hide (bc (unhide HB) hb1)
    clear hb1 v1
    go_wp2_with fail
    refine (unhide HC _ (unhide HB1)).mono ?_
    rintro e W0 ⟨rfl, hb2⟩
    have v1 := (unhide HV1).bel hb2
    have j0 := v1.cell (m := 0) rfl
    have j1 := v1.cell (m := 1) rfl
    have v2 := (unhide HV01).bel hb2
    have i0 := v2.cell (m := 0) rfl
    have i1 := v2.cell (m := 1) rfl
    have HVB := hide v1
    have HVA := hide v2
    have HBB := hide (bc (unhide HB1) hb2)
    have HUA := hide ((unhide HUA0).bel (unhide HBB))
    have HUB := hide ((unhide HUB0).bel (unhide HBB))
    clear hb2 v1 v2 k0 k1 k2
    go_wp2_with fail
    refine (unhide HTL _).mono ?_
    rintro e W0' ⟨rfl, rfl⟩
    cases rb with
    | false =>
      have HSE : Hid ((stB W H A W' H' B && false) = false) := hide (by simp)
      go_wp2_with fail
      go_ret
      exact ⟨by rw [unhide HSE]; first | done | rfl, unhide HBB⟩
    | true =>
    have HSE : Hid ((stB W H A W' H' B && true) = under A B) := hide (by rw [unhide HSB, Bool.and_true])
    go_wp2_with fail
    clear j0 j1 i0 i1
    generalize hW9 : W0' = W0 at *
    clear hW9
    go_loopw [7] (fun z X => ∃ i : Nat, z = .int .i64 (i : Int) ∧ i ≤ n' ∧ (∀ j, j < i → tp B j ≤ tp A j) ∧ Same W0 X) (fun z _ => n' - (intOf z).toNat)
    case atStart => exact ⟨0, rfl, Nat.zero_le _, fun j hj => by omega, Same.refl _⟩
    case round =>
      obtain ⟨i, rfl, hi, hall, hw⟩ := hrel
      have HAL := hide hall
      have k2 := (unhide HVA).cell (m := 2) rfl
      rw [← hw.cell] at k2
      have l2 := (unhide HVB).cell (m := 2) rfl
      rw [← hw.cell] at l2
      by_cases h : i < n'
      · have i1 : (i : Int) < (n' : Int) := by omega
        have i0 : (0 : Int) ≤ (i : Int) := Int.natCast_nonneg _
        have iz : decide ((i : Int) < (n' : Int)) = true := decide_eq_true i1
        have i2 : (i : Int) < (n : Int) := by have := unhide HLE; omega
        have hxa := tp_at (T := A) (i := i) (by have := unhide HLA; omega)
        have hxb := tp_at (T := B) (i := i) (by have := unhide HLB; omega)
        obtain ⟨rfl, pw, c0⟩ := (unhide HUA).at hxa
        obtain ⟨rfl, qw, d0⟩ := (unhide HUB).at hxb
        rw [← hw.cell] at c0 d0
        have HW := hide hw
        clear pw qw hxa hxb hw hall
        by_cases hlt : tp A i < tp B i
        · have HU : Hid (under A B = false) := hide (under_no (S := A) (P := B) (i := i) (by have := unhide HLB; omega) (by omega))
          generalize tp A i = x at *
          generalize tp B i = y at *
          have t1 := decide_eq_true hlt
          go_wp2_with fail
          first | go_quiet (fail) | skip
          go_wp2_with fail
          go_ret
          exact ⟨by rw [unhide HSE, unhide HU]; first | done | rfl, by repeat (first | exact bc (unhide HBB) (unhide HW).bel | refine bel_dn' ?_ _ | refine Below.drew ?_)⟩
        · have HNX : Hid (∀ j, j < i + 1 → tp B j ≤ tp A j) := hide (fun j hj => by
            by_cases e : j = i
            · subst e; omega
            · exact (unhide HAL) j (by omega))
          generalize tp A i = x at *
          generalize tp B i = y at *
          have t1 := decide_eq_false hlt
          go_wp2_with fail
          first | go_quiet (fail) | skip
          go_wp2_with fail
          go_roundw
          case rel => exact ⟨i + 1, by simp, h, unhide HNX, by repeat (first | exact unhide HW | refine Same.dnx ?_ _ | refine Same.drew ?_)⟩
          case measure => simp only [intOf]; omega
      · have iz : decide ((i : Int) < (n' : Int)) = false := decide_eq_false (by omega)
        have HU : Hid (under A B = true) := hide (under_iff.2 (fun j hj => (unhide HAL) j (by have := unhide HLB; omega)))
        have HW := hide hw
        clear hw hall
        go_wp2_with fail
        go_ret
        exact ⟨by rw [unhide HSE, unhide HU]; first | done | rfl, bc (unhide HBB) (unhide HW).bel⟩
  · have HSE : Hid ((stB W H A W' H' B && (decide (0 ≤ R) && decide (R ≤ 3))) = false) := hide (by unfold stB; rw [show pairB W H A W' H' B = false from decide_eq_false hp]; simp)
    have HSP : Hid ((fokB W H A && fokB W' H' B && decide (W = W') && decide (H = H')) = false) := hide (by rw [← pairB_split]; exact decide_eq_false hp)
    clear hp hl hl' hu hu'
    unfold fldV at *
    rw [unhide HSE]
    generalize fokB W H A = ba at *
    generalize fokB W' H' B = bb at *
    go_enter Try.func33, Try.ntmps33
    go_wp2_with fail
    refine (unhide HA _ (unhide HB)).mono ?_
    rintro e W1 ⟨rfl, hb1⟩
    have v1 := (unhide HV).bel hb1
    have k0 := v1.cell (m := 0) rfl
    have k1 := v1.cell (m := 1) rfl
    have k2 := v1.cell (m := 2) rfl
    have HV1 := hide v1
    have HV01 := hide ((unhide HV0).bel hb1)
    have HB1 := hide (bc (unhide HB) hb1)
    clear hb1 v1
    cases ba with
    | false =>
      go_wp2_with fail
      go_ret
      exact ⟨rfl, unhide HB1⟩
    | true =>
    go_wp2_with fail
    refine (unhide HC _ (unhide HB1)).mono ?_
    rintro e W0 ⟨rfl, hb2⟩
    have v1 := (unhide HV1).bel hb2
    have j0 := v1.cell (m := 0) rfl
    have j1 := v1.cell (m := 1) rfl
    have v2 := (unhide HV01).bel hb2
    have i0 := v2.cell (m := 0) rfl
    have i1 := v2.cell (m := 1) rfl
    have HVB := hide v1
    have HVA := hide v2
    have HBB := hide (bc (unhide HB1) hb2)
    have HUA := hide ((unhide HUA0).bel (unhide HBB))
    have HUB := hide ((unhide HUB0).bel (unhide HBB))
    clear hb2 v1 v2 k0 k1 k2
    cases bb with
    | false =>
      go_wp2_with fail
      go_ret
      exact ⟨rfl, unhide HBB⟩
    | true =>
    by_cases e1 : W = W'
    · have e2 : ¬ H = H' := fun e2 => by have := unhide HSP; simp [e1, e2] at this
      have t1 : (W != W') = false := by simp [e1]
      have t2 : (H != H') = true := by simp [e2]
      clear e1 e2
      go_wp2_with fail
      go_ret
      exact ⟨rfl, unhide HBB⟩
    · have t1 : (W != W') = true := by simp [e1]
      clear e1
      go_wp2_with fail
      go_ret
      exact ⟨rfl, unhide HBB⟩
end Go.Proofs.Ytjhldjojkaphkaa
