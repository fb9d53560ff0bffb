/-
  The model's ChainLikely.
-/
import Derived.Test.YtlanpmdekbjgeaaChainM
import Derived.Test.YtlanpmdekbjgeaaLyMath
namespace Go.Proofs.Ytlanpmdekbjgeaa
open Go.ChangeShapes Go.WideShapes Go.ChangeAt Go.RowKit
set_option linter.unusedVariables false
set_option linter.unusedSimpArgs false

theorem likM_val (m q low high A B : Int) (hA : A = m - 2 * clampTo 100000000 low) (hB : B = 2 * clampTo 100000000 high - m) (m0 : -16000000 ≤ m) (m1 : m ≤ 16000000) (hq : q ≤ 1600000000000) :
    lkl m q low high = (decide (0 ≤ A) && decide (0 ≤ B) && decide (q ≤ A * A) && decide (q ≤ B * B)) := by
  rw [lkl_model (K := 100000000) (by omega) m0 m1 hq, ← hA, ← hB, Bool.eq_iff_iff]
  rw [decide_eq_true_eq]
  simp only [Bool.and_eq_true, decide_eq_true_eq]
  unfold half
  constructor
  · rintro ⟨⟨h1, h2⟩, h3, h4⟩; exact ⟨⟨⟨h1, h3⟩, h2⟩, h4⟩
  · rintro ⟨⟨⟨h1, h3⟩, h2⟩, h4⟩; exact ⟨⟨h1, h2⟩, h3, h4⟩
theorem wsq {x : Int} (h0 : -300000000 ≤ x) (h1 : x ≤ 300000000) : wrap64 (x * x) = x * x := by
  have h2 : x * x ≤ 90000000000000000 := by
    rcases Int.le_total 0 x with h | h
    · have := Int.mul_le_mul h1 h1 h (by omega); omega
    · have := Int.mul_le_mul (show -x ≤ 300000000 by omega) (show -x ≤ 300000000 by omega) (by omega) (by omega)
      rw [Int.neg_mul_neg] at this
      omega
  have h3 : 0 ≤ x * x := by
    rcases Int.le_total 0 x with h | h
    · exact Int.mul_nonneg h h
    · have := Int.mul_nonneg (show 0 ≤ -x by omega) (show 0 ≤ -x by omega)
      rwa [Int.neg_mul_neg] at this
  unfold wrap64
  omega

theorem clamp_le (x : Int) : -100000000 ≤ clampTo 100000000 x ∧ clampTo 100000000 x ≤ 100000000 := by unfold clampTo; omega
theorem wsqA {m low A : Int} (hA : A = m - 2 * clampTo 100000000 low) (m0 : -16000000 ≤ m) (m1 : m ≤ 16000000) : wrap64 (A * A) = A * A := by
  have := clamp_le low
  exact wsq (by omega) (by omega)
theorem wsqB {m high B : Int} (hB : B = 2 * clampTo 100000000 high - m) (m0 : -16000000 ≤ m) (m1 : m ≤ 16000000) : wrap64 (B * B) = B * B := by
  have := clamp_le high
  exact wsq (by omega) (by omega)

set_option maxHeartbeats 2000000 in
theorem likM_any (u : Option Addr) (p po n cu : Nat) (low high : Int) (ls : List Lk) (w : World) (hl : ls.length = n) (hn : n ≤ 1048576) (hsz : ∀ l ∈ ls, l.nm.size ≤ 1048576) (hu : Lks w u p po ls) :
    Calls Try.prog 15 #[.slice u n cu, .int .i64 low, .int .i64 high] w fun e w' => e = .returned (.tuple #[.bool (likB ls low high), .int .i64 (lkCode ls)]) ∧ Below w.heap.size w w' := by
  by_cases h0 : 4096 < n
  · have hf := rightB_false (not_right_long (ls := ls) (by omega))
    rw [show likB ls low high = false by simp [likB, hf], show lkCode ls = 2 by simp [lkCode]; omega]
    have t0 : decide ((4096 : Int) < (n : Int)) = true := decide_eq_true (by omega)
    go_enter Try.func15, Try.ntmps15
    go_wp2_with fail
    refine bodyPost_ret (v := .tuple #[.bool false, .int .i64 2]) (by simp [results, Try.results15, go_sem, *]) rfl ⟨rfl, Below.refl _ _⟩
  · have t0 : decide ((4096 : Int) < (n : Int)) = false := decide_eq_false (by omega)
    have HM := hide (fun (W : World) (hW : Below w.heap.size w W) => linksM_any u p po n cu ls W hl hn hsz (hu.bel hW))
    by_cases hr : rightB ls = true
    · have HC := hide (fun (W : World) (hW : Below w.heap.size w W) => chainM_any u p po n cu ls W hl (of_rightB hr) (hu.bel hW))
      obtain ⟨s0, s1, s2, s3, s4, s5⟩ := sum_small (of_rightB hr) ls.length (Nat.le_refl _)
      rw [List.take_length] at s0 s1 s2 s3 s4 s5
      have hV : likB ls low high = lkl (sumBy lo ls + sumBy hi ls) (sumBy sq ls) low high := by simp [likB, chL, chM, chQ, hr]
      rw [hV, show lkCode ls = 0 by simp [lkCode, hr]; omega]
      rw [hr] at HM
      generalize sumBy lo ls = SL at *
      generalize sumBy hi ls = SM at *
      generalize sumBy sq ls = SQ at *
      generalize hm : SL + SM = m at *
      have m0 : -16000000 ≤ m := by omega
      have m1 : m ≤ 16000000 := by omega
      have HV := hide (fun A B hA hB => likM_val m SQ low high A B hA hB m0 m1 s5)
      generalize lkl m SQ low high = R at *
      clear hu hsz hl hr hV hm
      go_enter Try.func15, Try.ntmps15
      go_wp2_with fail
      refine (unhide HM _ (Below.refl _ _)).mono ?_
      rintro e W1 ⟨rfl, hb1⟩
      have HB1 := hide hb1
      clear hb1
      go_wp2_with fail
      refine (unhide HC _ (unhide HB1)).mono ?_
      rintro e W2 ⟨rfl, hb2⟩
      have HB2 := hide (bc (unhide HB1) hb2)
      clear hb2
      go_wp2_with fail
      all_goals
        first
          | (by_cases hA : m + 200000000 = m - 2 * clampTo 100000000 low; rotate_left; (exfalso; apply hA; unfold clampTo; omega); by_cases hB : -200000000 - m = 2 * clampTo 100000000 high - m; rotate_left; (exfalso; apply hB; unfold clampTo; omega); have hR := unhide HV _ _ hA hB; have wA := wsqA hA m0 m1; have wB := wsqB hB m0 m1; clear HV; rw [hR]; (try simp only [wA] at *); (try simp only [wB] at *); generalize (m + 200000000) * (m + 200000000) = AA at *; generalize (-200000000 - m) * (-200000000 - m) = BB at *; refine bodyPost_ret (v := .tuple #[.bool (decide (0 ≤ m + 200000000) && decide (0 ≤ -200000000 - m) && decide (SQ ≤ AA) && decide (SQ ≤ BB)), .int .i64 0]) ?_ rfl ⟨rfl, ba (unhide HB2) _⟩; simp [results, Try.results15, go_sem]; first | omega | (intros; omega) | (rw [Bool.eq_iff_iff]; simp; first | omega | (intros; omega)))
          | (by_cases hA : m + 200000000 = m - 2 * clampTo 100000000 low; rotate_left; (exfalso; apply hA; unfold clampTo; omega); by_cases hB : 200000000 - m = 2 * clampTo 100000000 high - m; rotate_left; (exfalso; apply hB; unfold clampTo; omega); have hR := unhide HV _ _ hA hB; have wA := wsqA hA m0 m1; have wB := wsqB hB m0 m1; clear HV; rw [hR]; (try simp only [wA] at *); (try simp only [wB] at *); generalize (m + 200000000) * (m + 200000000) = AA at *; generalize (200000000 - m) * (200000000 - m) = BB at *; refine bodyPost_ret (v := .tuple #[.bool (decide (0 ≤ m + 200000000) && decide (0 ≤ 200000000 - m) && decide (SQ ≤ AA) && decide (SQ ≤ BB)), .int .i64 0]) ?_ rfl ⟨rfl, ba (unhide HB2) _⟩; simp [results, Try.results15, go_sem]; first | omega | (intros; omega) | (rw [Bool.eq_iff_iff]; simp; first | omega | (intros; omega)))
          | (by_cases hA : m + 200000000 = m - 2 * clampTo 100000000 low; rotate_left; (exfalso; apply hA; unfold clampTo; omega); by_cases hB : 2 * high - m = 2 * clampTo 100000000 high - m; rotate_left; (exfalso; apply hB; unfold clampTo; omega); have hR := unhide HV _ _ hA hB; have wA := wsqA hA m0 m1; have wB := wsqB hB m0 m1; clear HV; rw [hR]; (try simp only [wA] at *); (try simp only [wB] at *); generalize (m + 200000000) * (m + 200000000) = AA at *; generalize (2 * high - m) * (2 * high - m) = BB at *; refine bodyPost_ret (v := .tuple #[.bool (decide (0 ≤ m + 200000000) && decide (0 ≤ 2 * high - m) && decide (SQ ≤ AA) && decide (SQ ≤ BB)), .int .i64 0]) ?_ rfl ⟨rfl, ba (unhide HB2) _⟩; simp [results, Try.results15, go_sem]; first | omega | (intros; omega) | (rw [Bool.eq_iff_iff]; simp; first | omega | (intros; omega)))
          | (by_cases hA : m - 200000000 = m - 2 * clampTo 100000000 low; rotate_left; (exfalso; apply hA; unfold clampTo; omega); by_cases hB : -200000000 - m = 2 * clampTo 100000000 high - m; rotate_left; (exfalso; apply hB; unfold clampTo; omega); have hR := unhide HV _ _ hA hB; have wA := wsqA hA m0 m1; have wB := wsqB hB m0 m1; clear HV; rw [hR]; (try simp only [wA] at *); (try simp only [wB] at *); generalize (m - 200000000) * (m - 200000000) = AA at *; generalize (-200000000 - m) * (-200000000 - m) = BB at *; refine bodyPost_ret (v := .tuple #[.bool (decide (0 ≤ m - 200000000) && decide (0 ≤ -200000000 - m) && decide (SQ ≤ AA) && decide (SQ ≤ BB)), .int .i64 0]) ?_ rfl ⟨rfl, ba (unhide HB2) _⟩; simp [results, Try.results15, go_sem]; first | omega | (intros; omega) | (rw [Bool.eq_iff_iff]; simp; first | omega | (intros; omega)))
          | (by_cases hA : m - 200000000 = m - 2 * clampTo 100000000 low; rotate_left; (exfalso; apply hA; unfold clampTo; omega); by_cases hB : 200000000 - m = 2 * clampTo 100000000 high - m; rotate_left; (exfalso; apply hB; unfold clampTo; omega); have hR := unhide HV _ _ hA hB; have wA := wsqA hA m0 m1; have wB := wsqB hB m0 m1; clear HV; rw [hR]; (try simp only [wA] at *); (try simp only [wB] at *); generalize (m - 200000000) * (m - 200000000) = AA at *; generalize (200000000 - m) * (200000000 - m) = BB at *; refine bodyPost_ret (v := .tuple #[.bool (decide (0 ≤ m - 200000000) && decide (0 ≤ 200000000 - m) && decide (SQ ≤ AA) && decide (SQ ≤ BB)), .int .i64 0]) ?_ rfl ⟨rfl, ba (unhide HB2) _⟩; simp [results, Try.results15, go_sem]; first | omega | (intros; omega) | (rw [Bool.eq_iff_iff]; simp; first | omega | (intros; omega)))
          | (by_cases hA : m - 200000000 = m - 2 * clampTo 100000000 low; rotate_left; (exfalso; apply hA; unfold clampTo; omega); by_cases hB : 2 * high - m = 2 * clampTo 100000000 high - m; rotate_left; (exfalso; apply hB; unfold clampTo; omega); have hR := unhide HV _ _ hA hB; have wA := wsqA hA m0 m1; have wB := wsqB hB m0 m1; clear HV; rw [hR]; (try simp only [wA] at *); (try simp only [wB] at *); generalize (m - 200000000) * (m - 200000000) = AA at *; generalize (2 * high - m) * (2 * high - m) = BB at *; refine bodyPost_ret (v := .tuple #[.bool (decide (0 ≤ m - 200000000) && decide (0 ≤ 2 * high - m) && decide (SQ ≤ AA) && decide (SQ ≤ BB)), .int .i64 0]) ?_ rfl ⟨rfl, ba (unhide HB2) _⟩; simp [results, Try.results15, go_sem]; first | omega | (intros; omega) | (rw [Bool.eq_iff_iff]; simp; first | omega | (intros; omega)))
          | (by_cases hA : m - 2 * low = m - 2 * clampTo 100000000 low; rotate_left; (exfalso; apply hA; unfold clampTo; omega); by_cases hB : -200000000 - m = 2 * clampTo 100000000 high - m; rotate_left; (exfalso; apply hB; unfold clampTo; omega); have hR := unhide HV _ _ hA hB; have wA := wsqA hA m0 m1; have wB := wsqB hB m0 m1; clear HV; rw [hR]; (try simp only [wA] at *); (try simp only [wB] at *); generalize (m - 2 * low) * (m - 2 * low) = AA at *; generalize (-200000000 - m) * (-200000000 - m) = BB at *; refine bodyPost_ret (v := .tuple #[.bool (decide (0 ≤ m - 2 * low) && decide (0 ≤ -200000000 - m) && decide (SQ ≤ AA) && decide (SQ ≤ BB)), .int .i64 0]) ?_ rfl ⟨rfl, ba (unhide HB2) _⟩; simp [results, Try.results15, go_sem]; first | omega | (intros; omega) | (rw [Bool.eq_iff_iff]; simp; first | omega | (intros; omega)))
          | (by_cases hA : m - 2 * low = m - 2 * clampTo 100000000 low; rotate_left; (exfalso; apply hA; unfold clampTo; omega); by_cases hB : 200000000 - m = 2 * clampTo 100000000 high - m; rotate_left; (exfalso; apply hB; unfold clampTo; omega); have hR := unhide HV _ _ hA hB; have wA := wsqA hA m0 m1; have wB := wsqB hB m0 m1; clear HV; rw [hR]; (try simp only [wA] at *); (try simp only [wB] at *); generalize (m - 2 * low) * (m - 2 * low) = AA at *; generalize (200000000 - m) * (200000000 - m) = BB at *; refine bodyPost_ret (v := .tuple #[.bool (decide (0 ≤ m - 2 * low) && decide (0 ≤ 200000000 - m) && decide (SQ ≤ AA) && decide (SQ ≤ BB)), .int .i64 0]) ?_ rfl ⟨rfl, ba (unhide HB2) _⟩; simp [results, Try.results15, go_sem]; first | omega | (intros; omega) | (rw [Bool.eq_iff_iff]; simp; first | omega | (intros; omega)))
          | (by_cases hA : m - 2 * low = m - 2 * clampTo 100000000 low; rotate_left; (exfalso; apply hA; unfold clampTo; omega); by_cases hB : 2 * high - m = 2 * clampTo 100000000 high - m; rotate_left; (exfalso; apply hB; unfold clampTo; omega); have hR := unhide HV _ _ hA hB; have wA := wsqA hA m0 m1; have wB := wsqB hB m0 m1; clear HV; rw [hR]; (try simp only [wA] at *); (try simp only [wB] at *); generalize (m - 2 * low) * (m - 2 * low) = AA at *; generalize (2 * high - m) * (2 * high - m) = BB at *; refine bodyPost_ret (v := .tuple #[.bool (decide (0 ≤ m - 2 * low) && decide (0 ≤ 2 * high - m) && decide (SQ ≤ AA) && decide (SQ ≤ BB)), .int .i64 0]) ?_ rfl ⟨rfl, ba (unhide HB2) _⟩; simp [results, Try.results15, go_sem]; first | omega | (intros; omega) | (rw [Bool.eq_iff_iff]; simp; first | omega | (intros; omega)))
    · have hf : rightB ls = false := by simpa using hr
      rw [show likB ls low high = false by simp [likB, hf], show lkCode ls = 1 by simp [lkCode, hf]; omega]
      rw [hf] at HM
      clear hu hsz hl hr hf
      go_enter Try.func15, Try.ntmps15
      go_wp2_with fail
      refine (unhide HM _ (Below.refl _ _)).mono ?_
      rintro e W1 ⟨rfl, hb1⟩
      have HB1 := hide hb1
      clear hb1
      go_wp2_with fail
      refine bodyPost_ret (v := .tuple #[.bool false, .int .i64 1]) (by simp [results, Try.results15, go_sem, *]) rfl ⟨rfl, unhide HB1⟩
end Go.Proofs.Ytlanpmdekbjgeaa
