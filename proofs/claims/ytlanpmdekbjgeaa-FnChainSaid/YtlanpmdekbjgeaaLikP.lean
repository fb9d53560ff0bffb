/-
  The program's ChainLikely.
-/
import Derived.Test.YtlanpmdekbjgeaaChainP
import Derived.Test.YtlanpmdekbjgeaaLyMath
namespace Go.Proofs.Ytlanpmdekbjgeaa
open Go.ChangeShapes Go.WideShapes Go.ChangeAt Go.RowKit
set_option linter.unusedVariables false
set_option linter.unusedSimpArgs false

theorem near_any (x : Int) (w : World) : Calls Try.prog 38 #[.int .i64 x] w fun e w' => e = .returned (.int .i64 (clampTo 16000000 x)) ∧ w' = w := by
  have h := clamp_cases 16000000 x (by omega)
  generalize clampTo 16000000 x = y at *
  go_enter Try.func38, Try.ntmps38
  go_wp2
  all_goals (go_ret; exact ⟨ret_int (by omega), rfl⟩)

theorem sqAbs {x : Int} (h0 : -300000000 ≤ x) (h1 : x ≤ 300000000) : 0 ≤ x * x ∧ x * x ≤ 90000000000000000 := by
  rcases Int.le_total 0 x with h | h
  · exact ⟨Int.mul_nonneg h h, by have := Int.mul_le_mul h1 h1 h (by omega); omega⟩
  · have h2 := Int.mul_le_mul (show -x ≤ 300000000 by omega) (show -x ≤ 300000000 by omega) (by omega) (by omega)
    have h3 := Int.mul_nonneg (show 0 ≤ -x by omega) (show 0 ≤ -x by omega)
    rw [Int.neg_mul_neg] at h2 h3
    exact ⟨h3, by omega⟩
theorem likP_val (m q low high X : Int) (hX : X = min (m - 2 * clampTo 16000000 low) (2 * clampTo 16000000 high - m)) (m0 : -16000000 ≤ m) (m1 : m ≤ 16000000) (hq : q ≤ 1600000000000) :
    lkl m q low high = (decide (0 ≤ X) && decide (q ≤ X * X)) := by
  rw [lkl_prog (K := 16000000) (by omega) m0 m1 hq, ← hX, Bool.eq_iff_iff, decide_eq_true_eq]
  simp only [Bool.and_eq_true, decide_eq_true_eq]
  rfl

set_option maxHeartbeats 2000000 in
theorem likP_any (u : Option Addr) (p po n cu : Nat) (low high : Int) (ls : List Lk) (w : World) (hl : ls.length = n) (hn : n ≤ 1048576) (hsz : ∀ l ∈ ls, l.nm.size ≤ 1048576) (hu : Lks w u p po ls) :
    Calls Try.prog 14 #[.slice u n cu, .int .i64 low, .int .i64 high] w fun e w' => e = .returned (.tuple #[.bool (likB ls low high), .int .i64 (lkCode ls)]) ∧ Below w.heap.size w w' := by
  have HC := hide (chOfP_any u p po n cu ls w hl hn hsz hu)
  by_cases hr : rightB ls = true
  rotate_left
  · have hf : rightB ls = false := by simpa using hr
    rw [show likB ls low high = false by simp [likB, hf]]
    have hc : lkCode ls = 1 ∨ lkCode ls = 2 := by unfold lkCode; rw [hf]; split <;> simp
    have hc0 : (lkCode ls != 0) = true := by rcases hc with e | e <;> rw [e] <;> rfl
    generalize lkCode ls = C at *
    clear hu hsz hl hr hf hc
    go_enter Try.func14, Try.ntmps14
    go_wp2_with fail
    refine (unhide HC).mono ?_
    rintro e W1 ⟨rfl, hb⟩
    have HB := hide hb
    clear hb
    go_wp2_with fail
    refine bodyPost_ret (v := .tuple #[.bool false, .int .i64 C]) (by simp [results, Try.results14, go_sem, *]) rfl ⟨rfl, ba (unhide HB) _⟩
  · obtain ⟨s0, s1, s2, s3, s4, s5⟩ := sum_small (of_rightB hr) ls.length (Nat.le_refl _)
    rw [List.take_length] at s0 s1 s2 s3 s4 s5
    have hV : likB ls low high = lkl (sumBy lo ls + sumBy hi ls) (sumBy sq ls) low high := by simp [likB, chL, chM, chQ, hr]
    have hk : lkCode ls = 0 := by have := (of_rightB hr).2.1; simp [lkCode, hr]; omega
    rw [show chL ls = sumBy lo ls by simp [chL, hr], show chM ls = sumBy hi ls by simp [chM, hr], show chQ ls = sumBy sq ls by simp [chQ, hr], hk] at HC
    rw [hV, hk]
    generalize sumBy lo ls = SL at *
    generalize sumBy hi ls = SM at *
    generalize sumBy sq ls = SQ at *
    generalize hm : SL + SM = m at *
    have m0 : -16000000 ≤ m := by omega
    have m1 : m ≤ 16000000 := by omega
    have HV := hide (fun X hX => likP_val m SQ low high X hX m0 m1 s5)
    have HL := hide (fun W => near_any low W)
    have HH := hide (fun W => near_any high W)
    have c0 : -16000000 ≤ clampTo 16000000 low ∧ clampTo 16000000 low ≤ 16000000 := by unfold clampTo; omega
    have c1 : -16000000 ≤ clampTo 16000000 high ∧ clampTo 16000000 high ≤ 16000000 := by unfold clampTo; omega
    generalize clampTo 16000000 low = cl at *
    generalize clampTo 16000000 high = ch at *
    obtain ⟨c2, c3⟩ := c0
    obtain ⟨c4, c5⟩ := c1
    generalize lkl m SQ low high = R at *
    clear hu hsz hl hr hV hm hk s0 s1 s2 s3
    have key : ∀ X : Int, X = min (m - 2 * cl) (2 * ch - m) → R = (decide (0 ≤ X) && decide (SQ ≤ X * X)) := unhide HV
    have f1 : IntKind.i64.wrap (2 * cl) = 2 * cl := by rw [IntKind.wrap_i64]; omega
    have f2 : IntKind.i64.wrap (2 * ch) = 2 * ch := by rw [IntKind.wrap_i64]; omega
    have f3 : IntKind.i64.wrap (m - 2 * cl) = m - 2 * cl := by rw [IntKind.wrap_i64]; omega
    have f4 : IntKind.i64.wrap (2 * ch - m) = 2 * ch - m := by rw [IntKind.wrap_i64]; omega
    by_cases hlt : 2 * ch - m < m - 2 * cl
    · have hl2 : decide (2 * ch - m < m - 2 * cl) = true := decide_eq_true hlt
      have hx := key (2 * ch - m) (by omega)
      have hs := sqAbs (x := 2 * ch - m) (by omega) (by omega)
      have w1 : IntKind.i64.wrap ((2 * ch - m) * (2 * ch - m)) = (2 * ch - m) * (2 * ch - m) := by rw [IntKind.wrap_i64]; omega
      generalize hXX : (2 * ch - m) * (2 * ch - m) = XX at *
      have HX := hide hx
      clear key HV hx hs
      go_enter Try.func14, Try.ntmps14
      go_wp2_with fail
      refine (unhide HC).mono ?_
      rintro e W1 ⟨rfl, hb⟩
      have HB := hide hb
      clear hb
      go_wp2_with fail
      go_region_held3 (fun wx => wx.cell? ⟨W1.heap.size, 2, none⟩ = some (.int .i64 m) ∧ wx.cell? ⟨W1.heap.size, 3, none⟩ = some (.int .i64 SQ))
        (simp (maxDischargeDepth := 12) [go_sem, le1, lt1, *])
        (first
        | (go_at_call 38; with_reducible refine (unhide HL _).mono ?_; rintro e w' ⟨rfl, rfl⟩)
        | (go_at_call 38; with_reducible refine (unhide HH _).mono ?_; rintro e w' ⟨rfl, rfl⟩))
      all_goals
        by_cases z0 : 0 ≤ 2 * ch - m
        · have z1 : decide (0 ≤ 2 * ch - m) = true := decide_eq_true z0
          go_wp2_with fail
          have ee : R = decide (SQ ≤ XX) := by rw [unhide HX, z1, Bool.true_and]
          refine bodyPost_ret (v := .tuple #[.bool R, .int .i64 0]) (by rw [ee]; simp [results, Try.results14, go_sem]) rfl ⟨rfl, by repeat (first | exact ba (unhide HB) _ | refine Below.drew ?_)⟩
        · have z1 : decide (0 ≤ 2 * ch - m) = false := decide_eq_false z0
          go_wp2_with fail
          have ee : R = false := by rw [unhide HX, z1, Bool.false_and]
          refine bodyPost_ret (v := .tuple #[.bool R, .int .i64 0]) (by rw [ee]; simp [results, Try.results14, go_sem]) rfl ⟨rfl, by repeat (first | exact ba (unhide HB) _ | refine Below.drew ?_)⟩
    · have hl2 : decide (2 * ch - m < m - 2 * cl) = false := decide_eq_false hlt
      have hx := key (m - 2 * cl) (by omega)
      have hs := sqAbs (x := m - 2 * cl) (by omega) (by omega)
      have w1 : IntKind.i64.wrap ((m - 2 * cl) * (m - 2 * cl)) = (m - 2 * cl) * (m - 2 * cl) := by rw [IntKind.wrap_i64]; omega
      generalize hXX : (m - 2 * cl) * (m - 2 * cl) = XX at *
      have HX := hide hx
      clear key HV hx hs
      go_enter Try.func14, Try.ntmps14
      go_wp2_with fail
      refine (unhide HC).mono ?_
      rintro e W1 ⟨rfl, hb⟩
      have HB := hide hb
      clear hb
      go_wp2_with fail
      go_region_held3 (fun wx => wx.cell? ⟨W1.heap.size, 2, none⟩ = some (.int .i64 m) ∧ wx.cell? ⟨W1.heap.size, 3, none⟩ = some (.int .i64 SQ))
        (simp (maxDischargeDepth := 12) [go_sem, le1, lt1, *])
        (first
        | (go_at_call 38; with_reducible refine (unhide HL _).mono ?_; rintro e w' ⟨rfl, rfl⟩)
        | (go_at_call 38; with_reducible refine (unhide HH _).mono ?_; rintro e w' ⟨rfl, rfl⟩))
      all_goals
        by_cases z0 : 0 ≤ m - 2 * cl
        · have z1 : decide (0 ≤ m - 2 * cl) = true := decide_eq_true z0
          go_wp2_with fail
          have ee : R = decide (SQ ≤ XX) := by rw [unhide HX, z1, Bool.true_and]
          refine bodyPost_ret (v := .tuple #[.bool R, .int .i64 0]) (by rw [ee]; simp [results, Try.results14, go_sem]) rfl ⟨rfl, by repeat (first | exact ba (unhide HB) _ | refine Below.drew ?_)⟩
        · have z1 : decide (0 ≤ m - 2 * cl) = false := decide_eq_false z0
          go_wp2_with fail
          have ee : R = false := by rw [unhide HX, z1, Bool.false_and]
          refine bodyPost_ret (v := .tuple #[.bool R, .int .i64 0]) (by rw [ee]; simp [results, Try.results14, go_sem]) rfl ⟨rfl, by repeat (first | exact ba (unhide HB) _ | refine Below.drew ?_)⟩
end Go.Proofs.Ytlanpmdekbjgeaa
