/-
  The loudest pulse by the model.
-/
import Derived.Test.YtgocgcnpgmamiaaLdP
namespace Go.Proofs.Ytgocgcnpgmamiaa
open Go.ChangeShapes Go.WideShapes Go.ChangeAt Go.RowKit
set_option linter.unusedVariables false
set_option linter.unusedSimpArgs false
attribute [local go_sem] run_store_flt run_store_cpx

set_option maxHeartbeats 2000000 in
theorem ldM_any (u v : Option Addr) (p po q qo n c m d : Nat) (L P : List Nat) (w : World) (hl : L.length = n * 3) (hn : n ≤ 9223372036854775807) (hu : Fls .f64 w u p po L) (hp : P.length = m) (hm : m ≤ 9223372036854775807) (hv : Fls .f64 w v q qo P) :
    Calls Try.prog 15 #[.slice u n c, .slice v m d] w fun e w' => (∃ b, e = .returned (.tuple #[.int .i64 ((ldR n m L P).2.1 : Int), .float .f64 b, .int .i64 (ldR n m L P).1]) ∧ Fv .f64 b = (ldR n m L P).2.2) ∧ Below w.heap.size w w' := by
  have HU := hide hu
  have HV := hide hv
  have HL := hide hl
  have HP := hide hp
  have n0 : (0 : Int) ≤ (n : Int) := Int.natCast_nonneg _
  have m0 : (0 : Int) ≤ (m : Int) := Int.natCast_nonneg _
  clear hu hv hl hp
  by_cases h1 : 4096 < n
  · have t1 : decide ((4096 : Int) < (n : Int)) = true := decide_eq_true (by omega)
    have hr : ldR n m L P = (2, 0, some 0) := by unfold ldR; rw [if_pos (.inl h1)]
    rw [hr]
    go_enter Try.func15, Try.ntmps15
    go_wp2_with fail
    exact bodyPost_ret (v := .tuple #[.int .i64 0, .float .f64 0, .int .i64 2]) (by simp [results, Try.results15, go_sem]) rfl ⟨⟨0, rfl, rfl⟩, Below.refl _ _⟩
  have t1 : decide ((4096 : Int) < (n : Int)) = false := decide_eq_false (by omega)
  by_cases h2 : 4096 < m
  · have t2 : decide ((4096 : Int) < (m : Int)) = true := decide_eq_true (by omega)
    have hr : ldR n m L P = (2, 0, some 0) := by unfold ldR; rw [if_pos (.inr h2)]
    rw [hr]
    go_enter Try.func15, Try.ntmps15
    go_wp2_with fail
    exact bodyPost_ret (v := .tuple #[.int .i64 0, .float .f64 0, .int .i64 2]) (by simp [results, Try.results15, go_sem]) rfl ⟨⟨0, rfl, rfl⟩, Below.refl _ _⟩
  have t2 : decide ((4096 : Int) < (m : Int)) = false := decide_eq_false (by omega)
  by_cases h3 : 1 ≤ m ∧ m ≤ 1000
  · have hr : ldR n m L P = ldG n L P m := by unfold ldR; rw [if_neg (by omega), if_pos h3]
    rw [hr]
    clear hr
    have t3 : decide ((m : Int) < 1) = false := decide_eq_false (by omega)
    have t4 : decide ((1000 : Int) < (m : Int)) = false := decide_eq_false (by omega)
    go_enter Try.func15, Try.ntmps15
    go_wp2_with fail
    go_loopw [7, 8, 9] (fun s t x W => ∃ (i b : Nat), s = .int .i64 ((ldG n L P i).2.1 : Int) ∧ t = .float .f64 b ∧ x = .int .i64 (i : Int) ∧ i ≤ m ∧ (ldG n L P i).1 = 0 ∧ Fv .f64 b = (ldG n L P i).2.2 ∧ Below w.heap.size w W) (fun _ _ s _ => m - (intOf s).toNat)
    case atStart => exact ⟨0, 0, rfl, rfl, rfl, Nat.zero_le _, rfl, rfl, Below.refl _ _⟩
    case round =>
      obtain ⟨i, b, rfl, rfl, rfl, hi, hg, hF, hw⟩ := hrel
      have HG := hide hg
      have HF := hide hF
      have HW := hide hw
      have i0 : (0 : Int) ≤ (i : Int) := Int.natCast_nonneg _
      generalize hbest : (ldG n L P i).2.1 = best at *
      have HBE := hide hbest
      clear hg hF hw hbest
      by_cases h : i < m
      · have i1 : (i : Int) < (m : Int) := by omega
        have iz : decide ((i : Int) < (m : Int)) = true := decide_eq_true i1
        obtain ⟨x, hx⟩ := get_some (unhide HP) h
        obtain ⟨rfl, qw, k0⟩ := ((unhide HV).bel (unhide HW)).at hx
        have HX := hide hx
        clear hx qw
        go_wp2_with fail
        refine (swayM_any u p po n c L x _ (unhide HL) hn ((unhide HU).bel (unhide HW))).mono ?_
        rintro e W1 ⟨⟨vv, rfl, hv⟩, hb⟩
        have HB := hide hb
        have HVV := hide hv
        clear hb hv k0
        by_cases hc : swC n L x = 0
        · have HC := hide hc
          obtain ⟨mm, g, cap, tt0, tt1, hnm, n20, rfl, c0, c1, ht⟩ := last_tone hc (unhide HVV)
          have w1 : IntKind.i64.wrap ((n : Int) - 1) = (mm : Int) := by rw [show (n : Int) - 1 = (mm : Int) by omega]; exact wrap_i (by omega) (by omega)
          have mm0 : (0 : Int) ≤ (mm : Int) := Int.natCast_nonneg _
          have mlt : (mm : Int) < (n : Int) := by omega
          have mlt2 : mm < n := by omega
          have HT := hide ht
          generalize hC : swC n L x = C at *
          have hcz : (C != 0) = false := by rw [hc]; rfl
          have HHC := hide hC
          clear hc hC hnm ht HVV
          go_upto_region 17 with (with_reducible refine upon_flt (by first | exact Or.inl rfl | exact Or.inr (Or.inr (Or.inl rfl))) ?_; intro r nn hrr)
          have HRV : Hid (Fv .f64 r = lod n L x) := hide (by rw [← unhide HT]; simp [tsq, tv, fa, fm, *])
          clear hrr c0 c1
          have horder : (FloatKind.f64.format.order r b == some .gt) = (ford .f64 (lod n L x) (ldG n L P i).2.2 == some .gt) := by rw [order_fv, unhide HRV, unhide HF]
          cases hgt : (ford .f64 (lod n L x) (ldG n L P i).2.2 == some .gt) with
          | true =>
            rw [hgt] at horder
            have HN := hide (ldG_next (b := true) (unhide HG) (unhide HX) ((unhide HHC).trans (unhide HC)) (by rw [hgt]; simp))
            clear hgt
            by_cases hi0 : i = 0
            · subst hi0
              go_wp2_with fail
              go_roundw
              case rel => exact ⟨0 + 1, r, by rw [unhide HN]; rfl, rfl, by simp, h, by rw [unhide HN]; rfl, by rw [unhide HN]; exact unhide HRV, bc (unhide HW) (bel_dn' (ba (unhide HB) _) _)⟩
              case measure => simp only [intOf]; omega
            · have iz0 : ((i : Int) == 0) = false := by simp; omega
              go_wp2_with fail
              go_roundw
              case rel => exact ⟨i + 1, r, by rw [unhide HN]; rfl, rfl, by simp, h, by rw [unhide HN]; rfl, by rw [unhide HN]; exact unhide HRV, bc (unhide HW) (bel_dn' (ba (unhide HB) _) _)⟩
              case measure => simp only [intOf]; omega
          | false =>
            rw [hgt] at horder
            by_cases hi0 : i = 0
            · subst hi0
              have HN := hide (ldG_next (b := true) (unhide HG) (unhide HX) ((unhide HHC).trans (unhide HC)) (by simp))
              clear hgt
              go_wp2_with fail
              go_roundw
              case rel => exact ⟨0 + 1, r, by rw [unhide HN]; rfl, rfl, by simp, h, by rw [unhide HN]; rfl, by rw [unhide HN]; exact unhide HRV, bc (unhide HW) (bel_dn' (ba (unhide HB) _) _)⟩
              case measure => simp only [intOf]; omega
            · have iz0 : ((i : Int) == 0) = false := by simp; omega
              have HN := hide (ldG_next (b := false) (unhide HG) (unhide HX) ((unhide HHC).trans (unhide HC)) (by rw [hgt]; simp; exact hi0))
              clear hgt
              go_wp2_with fail
              go_roundw
              case rel => exact ⟨i + 1, b, by rw [unhide HN, ← unhide HBE]; rfl, rfl, by simp, h, by rw [unhide HN]; exact unhide HG, by rw [unhide HN]; exact unhide HF, bc (unhide HW) (bel_dn' (ba (unhide HB) _) _)⟩
              case measure => simp only [intOf]; omega
        · have HC := hide hc
          generalize hC : swC n L x = C at *
          have hcz : (C != 0) = true := by simp [hc]
          have HHC := hide hC
          have HE := hide (ldG_bad (m := m) (unhide HG) (unhide HX) (by rw [hC]; exact hc) h)
          clear hc hC
          go_wp2_with fail
          exact bodyPost_ret (v := .tuple #[.int .i64 0, .float .f64 0, .int .i64 C]) (by simp [results, Try.results15, go_sem]) rfl ⟨⟨0, by rw [unhide HE, unhide HHC]; rfl, by rw [unhide HE]; rfl⟩, bc (unhide HW) (unhide HB)⟩
      · have iz : decide ((i : Int) < (m : Int)) = false := decide_eq_false (by omega)
        have en : i = m := by omega
        subst en
        go_wp2_with fail
        exact bodyPost_ret (v := .tuple #[.int .i64 (best : Int), .float .f64 b, .int .i64 0]) (by simp [results, Try.results15, go_sem]) rfl ⟨⟨b, by rw [unhide HBE, unhide HG], unhide HF⟩, unhide HW⟩
  · have hr : ldR n m L P = (1, 0, some 0) := by unfold ldR; rw [if_neg (by omega), if_neg h3]
    rw [hr]
    by_cases h4 : 1 ≤ m
    · have t3 : decide ((m : Int) < 1) = false := decide_eq_false (by omega)
      have t4 : decide ((1000 : Int) < (m : Int)) = true := decide_eq_true (by omega)
      go_enter Try.func15, Try.ntmps15
      go_wp2_with fail
      exact bodyPost_ret (v := .tuple #[.int .i64 0, .float .f64 0, .int .i64 1]) (by simp [results, Try.results15, go_sem]) rfl ⟨⟨0, rfl, rfl⟩, Below.refl _ _⟩
    · have t3 : decide ((m : Int) < 1) = true := decide_eq_true (by omega)
      go_enter Try.func15, Try.ntmps15
      go_wp2_with fail
      exact bodyPost_ret (v := .tuple #[.int .i64 0, .float .f64 0, .int .i64 1]) (by simp [results, Try.results15, go_sem]) rfl ⟨⟨0, rfl, rfl⟩, Below.refl _ _⟩
end Go.Proofs.Ytgocgcnpgmamiaa
