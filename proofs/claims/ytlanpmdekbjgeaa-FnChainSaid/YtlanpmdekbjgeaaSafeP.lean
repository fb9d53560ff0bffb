/-
  The program's ChainSafe.
-/
import Derived.Test.YtlanpmdekbjgeaaChainP
import Derived.Test.YtlanpmdekbjgeaaSfMath
namespace Go.Proofs.Ytlanpmdekbjgeaa
open Go.ChangeShapes Go.WideShapes Go.ChangeAt Go.RowKit
set_option linter.unusedVariables false
set_option linter.unusedSimpArgs false

theorem side_eq (tw : Int) (s : ByteArray) (a b c d : Int) (h : LOk ⟨s, a, b, c, d⟩) : tw * a * sgn (c + d) = sd tw ⟨s, a, b, c, d⟩ := by
  obtain ⟨_, q1, q2, q3, q4, q5, q6, q7⟩ := h
  simp only at q1 q2 q3 q4 q5 q6 q7
  unfold sd sgn
  simp only
  by_cases h : c = 0 ∧ d = 0
  · rw [if_pos h, if_neg (by omega), if_neg (by omega), Int.mul_zero]
  · rw [if_neg h, if_pos (by omega), Int.mul_one]

set_option maxHeartbeats 4000000 in
theorem safeP_any (u : Option Addr) (p po n cu : Nat) (low high : Int) (ls : List Lk) (w : World) (hl : ls.length = n) (hn : n ≤ 1048576) (hsz : ∀ l ∈ ls, l.nm.size ≤ 1048576) (hu : Lks w u p po ls) :
    Calls Try.prog 13 #[.slice u n cu, .int .i64 low, .int .i64 high] w fun e w' => (∃ v q k, e = .returned (.tuple #[.bool (safB ls low high), .slice v (outS ls low high).length k, .int .i64 (lkCode ls)]) ∧ ((outS ls low high).length ≠ 0 → v = some ⟨q, 0, none⟩ ∧ w.heap.size ≤ q ∧ iblk w' q 3 (outS ls low high))) ∧ Below w.heap.size w w' := by
  have HC := hide (chOfP_any u p po n cu ls w hl hn hsz hu)
  by_cases hr : rightB ls = true
  rotate_left
  · have hf : rightB ls = false := by simpa using hr
    rw [show safB ls low high = false by simp [safB, hf], show outS ls low high = [] by simp [outS, hf]]
    have hc : lkCode ls = 1 ∨ lkCode ls = 2 := by unfold lkCode; rw [hf]; split <;> simp
    have hc0 : (lkCode ls != 0) = true := by rcases hc with e | e <;> rw [e] <;> rfl
    generalize lkCode ls = C at *
    clear hu hsz hl hr hf hc
    go_enter Try.func13, Try.ntmps13
    go_wp2_with fail
    refine (unhide HC).mono ?_
    rintro e W1 ⟨rfl, hb⟩
    have HB := hide hb
    clear hb
    go_wp2_with fail
    refine bodyPost_ret (v := .tuple #[.bool false, .slice none 0 0, .int .i64 C]) (by simp [results, Try.results13, go_sem, *]) rfl ⟨⟨none, 0, 0, rfl, fun h => absurd rfl h⟩, ba (unhide HB) _⟩
  · have hR := of_rightB hr
    have n40 : n ≤ 40 := by have := hR.2.1; omega
    have hk : lkCode ls = 0 := by simp [lkCode, hr]; omega
    have hS : safB ls low high = decide (low ≤ chL ls ∧ chM ls ≤ high) := by simp [safB, hr]
    have hO : outS ls low high = if low ≤ chL ls ∧ chM ls ≤ high then [] else ls.map (sd (if chL ls < low then -1 else 1)) := by simp [outS, hr]
    have E54 := hide (fun (W : World) (hW : Below w.heap.size w W) => ofEach_any 54 (sd (-1)) enters54 (hide fun s a b c d W h => by
      have := leastSide_any s a b c d W h
      rw [show -a * sgn (c + d) = sd (-1) ⟨s, a, b, c, d⟩ by rw [← side_eq (-1) s a b c d h, Int.neg_one_mul]] at this
      exact this) u p po n cu ls W hl n40 hR.2.2.1 (hu.bel hW))
    have E56 := hide (fun (W : World) (hW : Below w.heap.size w W) => ofEach_any 56 (sd 1) enters56 (hide fun s a b c d W h => by
      have := mostSide_any s a b c d W h
      rw [show a * sgn (c + d) = sd 1 ⟨s, a, b, c, d⟩ by rw [← side_eq 1 s a b c d h, Int.one_mul]] at this
      exact this) u p po n cu ls W hl n40 hR.2.2.1 (hu.bel hW))
    rw [hS, hO, hk]
    rw [hk] at HC
    have HLM : Hid (∀ f : Lk → Int, (ls.map f).length = n) := hide (fun f => by rw [List.length_map]; exact hl)
    generalize chL ls + chM ls = vS at *
    generalize chL ls = vL at *
    generalize chM ls = vM at *
    generalize chQ ls = vQ at *
    have hst := fun (W : World) (a : Addr) (f : Nat) (h : W.cell? a = some .nilFunc) (hf : W.frozen? a = false) => store_func W a f _ h hf
    clear hu hsz hl hr hR hk hS hO
    by_cases h1 : vL < low
    · have t1 : decide (vL < low) = true := decide_eq_true h1
      rw [decide_eq_false (show ¬ (low ≤ vL ∧ vM ≤ high) by omega), if_neg (show ¬ (low ≤ vL ∧ vM ≤ high) by omega), if_pos h1, unhide HLM]
      go_enter Try.func13, Try.ntmps13
      go_wp2_with fail
      refine (unhide HC).mono ?_
      rintro e W1 ⟨rfl, hb⟩
      have HB := hide hb
      clear hb
      go_wp2_with fail
      refine (ends_any _).mono ?_
      rintro e W2 ⟨rfl, hb⟩
      have r0 := keep1 hb (b := W1.heap.size) (o := 0) (v := .int .i64 vL) (by simp [go_sem])
      have HB2 := hide (bc (ba (unhide HB) _) hb)
      have hlt := cell_lt r0
      clear hb
      go_wp2_with fail
      refine (unhide E54 _ (ba (unhide HB2) _)).mono ?_
      rintro e W3 ⟨⟨q1, rfl, hq1, hi1⟩, hb⟩
      have HI1 := hide hi1
      have HQ1 := hide (Nat.le_trans (unhide HB2).size (Nat.le_trans (by simp) hq1))
      have HB3 := hide (bc (ba (unhide HB2) _) hb)
      clear hb hi1 hq1
      go_wp2_with fail
      refine bodyPost_ret (v := .tuple #[.bool false, .slice (some ⟨q1, 0, none⟩) n n, .int .i64 0]) (by simp [results, Try.results13, go_sem, *]) rfl ⟨⟨_, q1, n, rfl, fun _ => ⟨rfl, unhide HQ1, unhide HI1⟩⟩, unhide HB3⟩
    · have t1 : decide (vL < low) = false := decide_eq_false h1
      by_cases h2 : high < vM
      · have t2 : decide (high < vM) = true := decide_eq_true h2
        rw [decide_eq_false (show ¬ (low ≤ vL ∧ vM ≤ high) by omega), if_neg (show ¬ (low ≤ vL ∧ vM ≤ high) by omega), if_neg h1, unhide HLM]
        go_enter Try.func13, Try.ntmps13
        go_wp2_with fail
        refine (unhide HC).mono ?_
        rintro e W1 ⟨rfl, hb⟩
        have HB := hide hb
        clear hb
        go_wp2_with fail
        refine (ends_any _).mono ?_
        rintro e W2 ⟨rfl, hb⟩
        have r0 := keep1 hb (b := W1.heap.size) (o := 0) (v := .int .i64 vL) (by simp [go_sem])
        have r1 := keep1 hb (b := W1.heap.size) (o := 1) (v := .int .i64 vM) (by simp [go_sem])
        have HB2 := hide (bc (ba (unhide HB) _) hb)
        have hlt := cell_lt r0
        clear hb
        go_wp2_with fail
        refine (unhide E56 _ (ba (unhide HB2) _)).mono ?_
        rintro e W3 ⟨⟨q1, rfl, hq1, hi1⟩, hb⟩
        have HI1 := hide hi1
        have HQ1 := hide (Nat.le_trans (unhide HB2).size (Nat.le_trans (by simp) hq1))
        have HB3 := hide (bc (ba (unhide HB2) _) hb)
        clear hb hi1 hq1
        go_wp2_with fail
        refine bodyPost_ret (v := .tuple #[.bool false, .slice (some ⟨q1, 0, none⟩) n n, .int .i64 0]) (by simp [results, Try.results13, go_sem, *]) rfl ⟨⟨_, q1, n, rfl, fun _ => ⟨rfl, unhide HQ1, unhide HI1⟩⟩, unhide HB3⟩
      · have t2 : decide (high < vM) = false := decide_eq_false h2
        rw [decide_eq_true (show low ≤ vL ∧ vM ≤ high by omega), if_pos (show low ≤ vL ∧ vM ≤ high by omega)]
        go_enter Try.func13, Try.ntmps13
        go_wp2_with fail
        refine (unhide HC).mono ?_
        rintro e W1 ⟨rfl, hb⟩
        have HB := hide hb
        clear hb
        go_wp2_with fail
        refine (ends_any _).mono ?_
        rintro e W2 ⟨rfl, hb⟩
        have r0 := keep1 hb (b := W1.heap.size) (o := 0) (v := .int .i64 vL) (by simp [go_sem])
        have r1 := keep1 hb (b := W1.heap.size) (o := 1) (v := .int .i64 vM) (by simp [go_sem])
        have HB2 := hide (bc (ba (unhide HB) _) hb)
        have hlt := cell_lt r0
        clear hb
        go_wp2_with fail
        refine bodyPost_ret (v := .tuple #[.bool true, .slice none 0 0, .int .i64 0]) (by simp [results, Try.results13, go_sem, *]) rfl ⟨⟨none, 0, 0, rfl, fun h => absurd rfl h⟩, ba (unhide HB2) _⟩
end Go.Proofs.Ytlanpmdekbjgeaa
