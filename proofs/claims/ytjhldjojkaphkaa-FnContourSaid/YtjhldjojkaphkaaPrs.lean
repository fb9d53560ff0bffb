/-
  Whether a stock and a part go together: both sides.
-/
import Derived.Test.YtjhldjojkaphkaaByt
import Derived.Test.YtjhldjojkaphkaaRst
import Derived.Test.YtjhldjojkaphkaaFlm
namespace Go.Proofs.Ytjhldjojkaphkaa
open Go.ChangeShapes Go.WideShapes Go.ChangeAt Go.RowKit
set_option linter.unusedVariables false
set_option linter.unusedSimpArgs false

/-- no column of the part is above the stock's -/
def under (S P : List Int) : Bool := (List.range P.length).all fun i => decide (tp P i ≤ tp S i)
def stB (W H : Int) (S : List Int) (W' H' : Int) (P : List Int) : Bool := pairB W H S W' H' P && under S P
theorem Same.dnx {a w : World} (h : Same a w) (n : Nat) : Same a (w.drewN n) := ⟨h.os, h.tape, h.output, h.heap⟩
theorem under_iff {S P : List Int} : under S P = true ↔ ∀ i, i < P.length → tp P i ≤ tp S i := by
  unfold under
  rw [List.all_eq_true]
  simp
theorem under_no {S P : List Int} {i : Nat} (hi : i < P.length) (h : ¬ tp P i ≤ tp S i) : under S P = false := by
  rw [Bool.eq_false_iff]
  intro hu
  exact h (under_iff.1 hu i hi)
set_option maxHeartbeats 2000000 in
theorem stP_any (W H : Int) (u : Option Addr) (p po n c : Nat) (A : List Int) (W' H' : Int) (u' : Option Addr) (p' po' n' c' : Nat) (B : List Int) (w : World)
    (hl : A.length = n) (hn : n ≤ 9223372036854775807) (hu : Its w u p po A) (hl' : B.length = n') (hn' : n' ≤ 9223372036854775807) (hu' : Its w u' p' po' B) :
    Calls Try.prog 34 #[fldV W H u n c, fldV W' H' u' n' c'] w fun e w' => e = .returned (.bool (stB W H A W' H' B)) ∧ Below w.heap.size w w' := by
  have HB := hide (boxs w W H u n c W' H' u' n' c')
  have HF := hide (fun X (hX : Below w.heap.size w X) => rfP_any W H u p po n c A W' H' u' p' po' n' c' B X hl hn (hu.bel hX) hl' hn' (hu'.bel hX))
  have HV := hide (vb_new2 w 25 [.int .i64 W', .int .i64 H', .slice u' n' c'] (.cells #[.int .i64 W, .int .i64 H, .slice u n c] 25))
  have HV0 := hide (vb_new1 w 25 [.int .i64 W, .int .i64 H, .slice u n c] (.cells #[.int .i64 W', .int .i64 H', .slice u' n' c'] 25))
  have HUA0 := hide hu
  have HUB0 := hide hu'
  have HLA := hide hl
  have HLB := hide hl'
  have n0 : (0 : Int) ≤ (n' : Int) := Int.natCast_nonneg _
  by_cases hp : FPair W H A W' H' B
  · rw [show pairB W H A W' H' B = true from decide_eq_true hp] at HF
    have HSE : Hid (stB W H A W' H' B = under A B) := hide (by unfold stB; rw [show pairB W H A W' H' B = true from decide_eq_true hp, Bool.true_and])
    have HLE : Hid (n' = n) := hide (by have := hp.len; omega)
    have HNS : Hid (n ≤ 576) := hide (by have := hp.a.small; omega)
    clear hp hl hl' hu hu'
    unfold fldV at *
    go_enter Try.func34, Try.ntmps34
    go_wp2_with fail
    refine (unhide HF _ (unhide HB)).mono ?_
    rintro e W0 ⟨rfl, hb1⟩
    have v1 := (unhide HV).bel hb1
    have l2 := v1.cell (m := 2) rfl
    have HVB := hide v1
    have HVA := hide ((unhide HV0).bel hb1)
    have HBB := hide (bc (unhide HB) hb1)
    have HUA := hide ((unhide HUA0).bel (unhide HBB))
    have HUB := hide ((unhide HUB0).bel (unhide HBB))
    have hns : n' ≤ 576 := by have := unhide HNS; have := unhide HLE; omega
    clear hb1 v1
    go_wp2_with fail
    go_loopw [14] (fun z X => ∃ i : Nat, z = .int .i64 (i : Int) ∧ i ≤ n' ∧ (∀ j, j < i → tp B j ≤ tp A j) ∧ Same W0 X) (fun z _ => n' - (intOf z).toNat)
    case atStart => exact ⟨0, rfl, Nat.zero_le _, fun j hj => by omega, Same.refl _⟩
    case round =>
      obtain ⟨i, rfl, hi, hall, hw⟩ := hrel
      have HAL := hide hall
      have k2 := (unhide HVA).cell (m := 2) rfl
      rw [← hw.cell] at k2
      by_cases h : i < n'
      · have i1 : (i : Int) < (n' : Int) := by omega
        have i0 : (0 : Int) ≤ (i : Int) := Int.natCast_nonneg _
        have iz : decide ((i : Int) < (n' : Int)) = true := decide_eq_true i1
        have i2 : (i : Int) < (n : Int) := by have := unhide HLE; omega
        have hxa := tp_at (T := A) (i := i) (by have := unhide HLA; omega)
        have hxb := tp_at (T := B) (i := i) (by have := unhide HLB; omega)
        obtain ⟨rfl, pw, c0⟩ := (unhide HUA).at hxa
        obtain ⟨rfl, qw, d0⟩ := (unhide HUB).at hxb
        rw [← hw.cell] at c0 d0
        have HW := hide hw
        clear pw qw hxa hxb hw hall l2
        by_cases hlt : tp A i < tp B i
        · have HU : Hid (under A B = false) := hide (under_no (S := A) (P := B) (i := i) (by have := unhide HLB; omega) (by omega))
          generalize tp A i = x at *
          generalize tp B i = y at *
          have t1 := decide_eq_true hlt
          go_wp2_with fail
          first | go_quiet (fail) | skip
          go_wp2_with fail
          go_ret
          exact ⟨by rw [unhide HSE, unhide HU]; first | done | rfl, by repeat (first | exact bc (unhide HBB) (unhide HW).bel | refine bel_dn' ?_ _ | refine Below.drew ?_)⟩
        · have HNX : Hid (∀ j, j < i + 1 → tp B j ≤ tp A j) := hide (fun j hj => by
            by_cases e : j = i
            · subst e; omega
            · exact (unhide HAL) j (by omega))
          generalize tp A i = x at *
          generalize tp B i = y at *
          have t1 := decide_eq_false hlt
          go_wp2_with fail
          first | go_quiet (fail) | skip
          go_wp2_with fail
          go_roundw
          case rel => exact ⟨i + 1, by simp, h, unhide HNX, by repeat (first | exact unhide HW | refine Same.dnx ?_ _ | refine Same.drew ?_)⟩
          case measure => simp only [intOf]; omega
      · have iz : decide ((i : Int) < (n' : Int)) = false := decide_eq_false (by omega)
        have HU : Hid (under A B = true) := hide (under_iff.2 (fun j hj => (unhide HAL) j (by have := unhide HLB; omega)))
        have HW := hide hw
        clear hw hall
        go_wp2_with fail
        go_ret
        exact ⟨by rw [unhide HSE, unhide HU]; first | done | rfl, bc (unhide HBB) (unhide HW).bel⟩
  · rw [show pairB W H A W' H' B = false from decide_eq_false hp] at HF
    have HSE : Hid (stB W H A W' H' B = false) := hide (by unfold stB; rw [show pairB W H A W' H' B = false from decide_eq_false hp, Bool.false_and])
    clear hp hl hl' hu hu'
    unfold fldV at *
    go_enter Try.func34, Try.ntmps34
    go_wp2_with fail
    refine (unhide HF _ (unhide HB)).mono ?_
    rintro e W0 ⟨rfl, hb1⟩
    have HBB := hide (bc (unhide HB) hb1)
    clear hb1
    go_wp2_with fail
    go_ret
    exact ⟨by rw [unhide HSE]; first | done | rfl, unhide HBB⟩
end Go.Proofs.Ytjhldjojkaphkaa
