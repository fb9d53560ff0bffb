/-
  By how much one field is above another: both sides.
-/
import Derived.Test.YtjhldjojkaphkaaFdOk
namespace Go.Proofs.Ytjhldjojkaphkaa
open Go.ChangeShapes Go.WideShapes Go.ChangeAt Go.RowKit
set_option linter.unusedVariables false
set_option linter.unusedSimpArgs false

theorem boxs (w : World) (W H : Int) (u : Option Addr) (n c : Nat) (W' H' : Int) (u' : Option Addr) (n' c' : Nat) :
    Below w.heap.size w ((w.alloc (.cells #[.int .i64 W, .int .i64 H, .slice u n c] 25)).alloc (.cells #[.int .i64 W', .int .i64 H', .slice u' n' c'] 25)) := ba (ba (Below.refl _ _) _) _
set_option maxHeartbeats 1000000 in
theorem rfP_any (W H : Int) (u : Option Addr) (p po n c : Nat) (A : List Int) (W' H' : Int) (u' : Option Addr) (p' po' n' c' : Nat) (B : List Int) (w : World)
    (hl : A.length = n) (hn : n ≤ 9223372036854775807) (hu : Its w u p po A) (hl' : B.length = n') (hn' : n' ≤ 9223372036854775807) (hu' : Its w u' p' po' B) :
    Calls Try.prog 50 #[fldV W H u n c, fldV W' H' u' n' c'] w fun e w' => e = .returned (.bool (pairB W H A W' H' B)) ∧ Below w.heap.size w w' := by
  have HS := hide (pairB_split W H A W' H' B)
  have HB := hide (boxs w W H u n c W' H' u' n' c')
  have HA := hide (fun X (hX : Below w.heap.size w X) => fokP_any W H u p po n c A X hl hn (hu.bel hX))
  have HC := hide (fun X (hX : Below w.heap.size w X) => fokP_any W' H' u' p' po' n' c' B X hl' hn' (hu'.bel hX))
  have hv := (vb_new2 w 25 [.int .i64 W', .int .i64 H', .slice u' n' c'] (.cells #[.int .i64 W, .int .i64 H, .slice u n c] 25))
  have hv0 := (vb_new1 w 25 [.int .i64 W, .int .i64 H, .slice u n c] (.cells #[.int .i64 W', .int .i64 H', .slice u' n' c'] 25))
  have HV := hide hv
  have HV0 := hide hv0
  clear hl hl' hu hu' hv hv0
  unfold fldV at *
  generalize fokB W H A = ba at *
  generalize fokB W' H' B = bb at *
  go_enter Try.func50, Try.ntmps50
  go_wp2_with fail
  refine (unhide HA _ (unhide HB)).mono ?_
  rintro e W1 ⟨rfl, hb1⟩
  have v1 := (unhide HV).bel hb1
  have k0 := v1.cell (m := 0) rfl
  have k1 := v1.cell (m := 1) rfl
  have k2 := v1.cell (m := 2) rfl
  have HV1 := hide v1
  have HV01 := hide ((unhide HV0).bel hb1)
  have HB1 := hide (bc (unhide HB) hb1)
  clear hb1 v1
  cases ba with
  | false =>
    go_wp2_with fail
    go_ret
    exact ⟨by rw [unhide HS]; first | done | rfl | simp, unhide HB1⟩
  | true =>
    go_wp2_with fail
    refine (unhide HC _ (unhide HB1)).mono ?_
    rintro e W2 ⟨rfl, hb2⟩
    have v1 := (unhide HV1).bel hb2
    have j0 := v1.cell (m := 0) rfl
    have j1 := v1.cell (m := 1) rfl
    have v2 := (unhide HV01).bel hb2
    have i0 := v2.cell (m := 0) rfl
    have i1 := v2.cell (m := 1) rfl
    have HB2 := hide (bc (unhide HB1) hb2)
    clear hb2 v1 v2 k0 k1 k2
    cases bb with
    | false =>
      go_wp2_with fail
      go_ret
      exact ⟨by rw [unhide HS]; first | done | rfl | simp, unhide HB2⟩
    | true =>
      by_cases e1 : W = W'
      · have t1 : (W == W') = true := by simp [e1]
        have HE1 := hide e1
        clear e1
        by_cases e2 : H = H'
        · have t2 : (H == H') = true := by simp [e2]
          have HE2 := hide e2
          clear e2
          go_wp2_with fail
          go_ret
          exact ⟨by rw [unhide HS, decide_eq_true (unhide HE1), decide_eq_true (unhide HE2)]; first | done | rfl | simp, unhide HB2⟩
        · have t2 : (H == H') = false := by simp [e2]
          have HE2 := hide e2
          clear e2
          go_wp2_with fail
          go_ret
          exact ⟨by rw [unhide HS, decide_eq_false (unhide HE2)]; first | done | rfl | simp, unhide HB2⟩
      · have t1 : (W == W') = false := by simp [e1]
        have HE1 := hide e1
        clear e1
        go_wp2_with fail
        go_ret
        exact ⟨by rw [unhide HS, decide_eq_false (unhide HE1)]; first | done | rfl | simp, unhide HB2⟩
set_option maxHeartbeats 2000000 in
theorem rsP_any (W H : Int) (u : Option Addr) (p po n c : Nat) (A : List Int) (W' H' : Int) (u' : Option Addr) (p' po' n' c' : Nat) (B : List Int) (w : World)
    (hl : A.length = n) (hn : n ≤ 9223372036854775807) (hu : Its w u p po A) (hl' : B.length = n') (hn' : n' ≤ 9223372036854775807) (hu' : Its w u' p' po' B) :
    Calls Try.prog 14 #[fldV W H u n c, fldV W' H' u' n' c'] w fun e w' => e = .returned (.tuple #[.int .i64 (restS W H A W' H' B), .int .i64 (restC W H A W' H' B)]) ∧ Below w.heap.size w w' := by
  have HB := hide (boxs w W H u n c W' H' u' n' c')
  have HF := hide (fun X (hX : Below w.heap.size w X) => rfP_any W H u p po n c A W' H' u' p' po' n' c' B X hl hn (hu.bel hX) hl' hn' (hu'.bel hX))
  have HV := hide (vb_new2 w 25 [.int .i64 W', .int .i64 H', .slice u' n' c'] (.cells #[.int .i64 W, .int .i64 H, .slice u n c] 25))
  have HV0 := hide (vb_new1 w 25 [.int .i64 W, .int .i64 H, .slice u n c] (.cells #[.int .i64 W', .int .i64 H', .slice u' n' c'] 25))
  have HUA0 := hide hu
  have HUB0 := hide hu'
  have HLA := hide hl
  have HLB := hide hl'
  have n0 : (0 : Int) ≤ (n : Int) := Int.natCast_nonneg _
  by_cases hp : FPair W H A W' H' B
  · rw [show pairB W H A W' H' B = true from decide_eq_true hp] at HF
    have HP := hide hp
    have HRB := hide (rsum_bound hp.a.tops_tp hp.b.tops_tp)
    have HLE : Hid (n' = n) := hide (by have := hp.len; omega)
    have HNS : Hid (n ≤ 576) := hide (by have := hp.a.small; omega)
    have HTA := hide hp.a.tops_tp
    have HTB := hide hp.b.tops_tp
    have HRS : Hid (restS W H A W' H' B = rsum A B n) := hide (by unfold restS; rw [if_pos hp, hl])
    have HRC : Hid (restC W H A W' H' B = 0) := hide (by unfold restC; rw [if_pos hp])
    clear hp hl hl' hu hu'
    unfold fldV at *
    go_enter Try.func14, Try.ntmps14
    go_wp2_with fail
    refine (unhide HF _ (unhide HB)).mono ?_
    rintro e W0 ⟨rfl, hb1⟩
    have HVB := hide ((unhide HV).bel hb1)
    have v1 := (unhide HV0).bel hb1
    have k2 := v1.cell (m := 2) rfl
    have HVA := hide v1
    have HBB := hide (bc (unhide HB) hb1)
    have HUA := hide ((unhide HUA0).bel (unhide HBB))
    have HUB := hide ((unhide HUB0).bel (unhide HBB))
    clear hb1 v1
    go_wp2_with fail
    skip
    go_loopw [6, 16] (fun zs z X => ∃ i : Nat, z = .int .i64 (i : Int) ∧ i ≤ n ∧ zs = .int .i64 (rsum A B i) ∧ Below W0.heap.size W0 X) (fun _ z _ => n - (intOf z).toNat)
    case atStart => exact ⟨0, rfl, Nat.zero_le _, rfl, Below.refl _ _⟩
    case round =>
      obtain ⟨i, rfl, hi, rfl, hw⟩ := hrel
      have v1 := (unhide HVA).bel hw
      have k2 := v1.cell (m := 2) rfl
      have v2 := (unhide HVB).bel hw
      have l2 := v2.cell (m := 2) rfl
      have HWW := hide hw
      clear hw v1 v2
      by_cases h : i < n
      · have i1 : (i : Int) < (n : Int) := by omega
        have i0 : (0 : Int) ≤ (i : Int) := Int.natCast_nonneg _
        have iz : decide ((i : Int) < (n : Int)) = true := decide_eq_true i1
        have hle := unhide HLE
        have i2 : (i : Int) < (n' : Int) := by omega
        have hxa := tp_at (T := A) (i := i) (by have := unhide HLA; omega)
        have hxb := tp_at (T := B) (i := i) (by have := unhide HLB; omega)
        obtain ⟨rfl, pw, c0⟩ := ((unhide HUA).bel (unhide HWW)).at hxa
        obtain ⟨rfl, qw, d0⟩ := ((unhide HUB).bel (unhide HWW)).at hxb
        have HRN : Hid (rsum A B (i + 1) = rsum A B i + max (tp A i - tp B i) 0) := hide rfl
        have hra := (unhide HTA) i
        have hrb := (unhide HTB) i
        have hrr := (unhide HRB) i
        have hns := unhide HNS
        generalize tp A i = x at *
        generalize tp B i = y at *
        generalize rsum A B i = rs at *
        have w1 : IntKind.i64.wrap (x - y) = x - y := Go.IntWalk.i64_in _ ⟨by omega, by omega⟩
        have w2 : IntKind.i64.wrap (rs + max (x - y) 0) = rs + max (x - y) 0 := Go.IntWalk.i64_in _ ⟨by omega, by omega⟩
        have w3 : IntKind.i64.wrap (rs + max 0 (x - y)) = rs + max 0 (x - y) := Go.IntWalk.i64_in _ ⟨by omega, by omega⟩
        clear pw qw hxa hxb hle
        go_wp2_with fail

        go_roundw
        case rel => exact ⟨i + 1, by simp, h, by rw [unhide HRN]; first | done | rfl | (congr 1; omega) | (simp only [Value.int.injEq, true_and]; omega), by repeat (first | exact unhide HWW | refine bel_dn' ?_ _ | refine Below.drew ?_)⟩
        case measure => simp only [intOf]; omega
      · have iz : decide ((i : Int) < (n : Int)) = false := decide_eq_false (by omega)
        obtain rfl : i = n := by omega
        go_wp2_with fail
        refine bodyPost_ret (v := .tuple #[.int .i64 (rsum A B i), .int .i64 0]) (by simp [results, Try.results14, go_sem]) rfl ⟨by rw [unhide HRS, unhide HRC], bc (unhide HBB) (unhide HWW)⟩
  · rw [show pairB W H A W' H' B = false from decide_eq_false hp] at HF
    have HRS : Hid (restS W H A W' H' B = 0) := hide (by unfold restS; rw [if_neg hp])
    have HRC : Hid (restC W H A W' H' B = 1) := hide (by unfold restC; rw [if_neg hp])
    clear hp hl hl' hu hu'
    unfold fldV at *
    go_enter Try.func14, Try.ntmps14
    go_wp2_with fail
    refine (unhide HF _ (unhide HB)).mono ?_
    rintro e W0 ⟨rfl, hb1⟩
    have HBB := hide (bc (unhide HB) hb1)
    clear hb1
    go_wp2_with fail
    exact bodyPost_ret (v := .tuple #[.int .i64 0, .int .i64 1]) (by simp [results, Try.results14, go_sem]) rfl ⟨by rw [unhide HRS, unhide HRC], unhide HBB⟩
end Go.Proofs.Ytjhldjojkaphkaa
