/-
  The model's ChainOf and ChainLikely.
-/
import Derived.Test.YtlanpmdekbjgeaaChainM
import Derived.Test.YtlanpmdekbjgeaaLyMath
namespace Go.Proofs.Ytlanpmdekbjgeaa
open Go.ChangeShapes Go.WideShapes Go.ChangeAt Go.RowKit
set_option linter.unusedVariables false
set_option linter.unusedSimpArgs false

set_option maxHeartbeats 1000000 in
theorem chOfM_any (u : Option Addr) (p po n cu : Nat) (ls : List Lk) (w : World) (hl : ls.length = n) (hn : n ≤ 1048576) (hsz : ∀ l ∈ ls, l.nm.size ≤ 1048576) (hu : Lks w u p po ls) :
    Calls Try.prog 11 #[.slice u n cu] w fun e w' => e = .returned (.tuple #[.agg #[.int .i64 (chL ls), .int .i64 (chM ls), .int .i64 (chL ls + chM ls), .int .i64 (chQ ls)], .int .i64 (lkCode ls)]) ∧ Below w.heap.size w w' := by
  by_cases h0 : 4096 < n
  · have hf := rightB_false (not_right_long (ls := ls) (by omega))
    rw [show chL ls = 0 by simp [chL, hf], show chM ls = 0 by simp [chM, hf], show chQ ls = 0 by simp [chQ, hf], show lkCode ls = 2 by simp [lkCode]; omega]
    have t0 : decide ((4096 : Int) < (n : Int)) = true := decide_eq_true (by omega)
    go_enter Try.func11, Try.ntmps11
    go_wp2_with fail
    refine bodyPost_ret (v := .tuple #[.agg #[.int .i64 0, .int .i64 0, .int .i64 0, .int .i64 0], .int .i64 2]) (by simp [results, Try.results11, go_sem, *]) rfl ⟨rfl, ?_⟩
    repeat (first | exact ba (Below.refl _ _) _ | refine Below.setCell ?_ (by simp) _)
  · have t0 : decide ((4096 : Int) < (n : Int)) = false := decide_eq_false (by omega)
    have HM := hide (fun (W : World) (hW : Below w.heap.size w W) => linksM_any u p po n cu ls W hl hn hsz (hu.bel hW))
    by_cases hr : rightB ls = true
    · have HC := hide (fun (W : World) (hW : Below w.heap.size w W) => chainM_any u p po n cu ls W hl (of_rightB hr) (hu.bel hW))
      rw [show chL ls = sumBy lo ls by simp [chL, hr], show chM ls = sumBy hi ls by simp [chM, hr], show chQ ls = sumBy sq ls by simp [chQ, hr], show lkCode ls = 0 by simp [lkCode, hr]; omega]
      rw [hr] at HM
      generalize sumBy lo ls = SL at *
      generalize sumBy hi ls = SM at *
      generalize sumBy sq ls = SQ at *
      clear hu hsz hl hr
      go_enter Try.func11, Try.ntmps11
      go_wp2_with fail
      refine (unhide HM _ (ba (Below.refl _ _) _)).mono ?_
      rintro e W1 ⟨rfl, hb⟩
      have c0 := keep1 hb (b := w.heap.size) (o := 0) (v := .int .i64 0) (by simp [go_sem])
      have c1 := keep1 hb (b := w.heap.size) (o := 1) (v := .int .i64 0) (by simp [go_sem])
      have c2 := keep1 hb (b := w.heap.size) (o := 2) (v := .int .i64 0) (by simp [go_sem])
      have c3 := keep1 hb (b := w.heap.size) (o := 3) (v := .int .i64 0) (by simp [go_sem])
      have fz := fun o => keepz hb (b := w.heap.size) (o := o) (by simp) (by simp [go_sem])
      have HB := hide (bc (ba (Below.refl _ _) _) hb)
      clear hb
      go_wp2_with fail
      refine (unhide HC _ (unhide HB)).mono ?_
      rintro e W2 ⟨rfl, hb⟩
      have c0 := keep1 hb (b := w.heap.size) (o := 0) (v := .int .i64 0) c0
      have c1 := keep1 hb (b := w.heap.size) (o := 1) (v := .int .i64 0) c1
      have c2 := keep1 hb (b := w.heap.size) (o := 2) (v := .int .i64 0) c2
      have c3 := keep1 hb (b := w.heap.size) (o := 3) (v := .int .i64 0) c3
      have fz := fun o => keepz hb (b := w.heap.size) (o := o) (cell_lt (by assumption)) (fz o)
      have HB2 := hide (bc (unhide HB) hb)
      clear hb
      go_wp2_with fail
      refine bodyPost_ret (v := .tuple #[.agg #[.int .i64 SL, .int .i64 SM, .int .i64 (SL + SM), .int .i64 SQ], .int .i64 0]) (by simp [results, Try.results11, go_sem, *]) rfl ⟨rfl, ?_⟩
      repeat (first | exact unhide HB2 | refine Below.setCell ?_ (by simp) _)
    · have hf : rightB ls = false := by simpa using hr
      rw [show chL ls = 0 by simp [chL, hf], show chM ls = 0 by simp [chM, hf], show chQ ls = 0 by simp [chQ, hf], show lkCode ls = 1 by simp [lkCode, hf]; omega]
      rw [hf] at HM
      clear hu hsz hl hr hf
      go_enter Try.func11, Try.ntmps11
      go_wp2_with fail
      refine (unhide HM _ (ba (Below.refl _ _) _)).mono ?_
      rintro e W1 ⟨rfl, hb⟩
      have c0 := keep1 hb (b := w.heap.size) (o := 0) (v := .int .i64 0) (by simp [go_sem])
      have c1 := keep1 hb (b := w.heap.size) (o := 1) (v := .int .i64 0) (by simp [go_sem])
      have c2 := keep1 hb (b := w.heap.size) (o := 2) (v := .int .i64 0) (by simp [go_sem])
      have c3 := keep1 hb (b := w.heap.size) (o := 3) (v := .int .i64 0) (by simp [go_sem])
      have fz := fun o => keepz hb (b := w.heap.size) (o := o) (by simp) (by simp [go_sem])
      have HB := hide (bc (ba (Below.refl _ _) _) hb)
      clear hb
      go_wp2_with fail
      refine bodyPost_ret (v := .tuple #[.agg #[.int .i64 0, .int .i64 0, .int .i64 0, .int .i64 0], .int .i64 1]) (by simp [results, Try.results11, go_sem, *]) rfl ⟨rfl, ?_⟩
      repeat (first | exact unhide HB | refine Below.setCell ?_ (by simp) _)
end Go.Proofs.Ytlanpmdekbjgeaa
