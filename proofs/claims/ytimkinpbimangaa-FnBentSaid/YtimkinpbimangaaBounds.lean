/-
  The lesser and the greater of two points, as the program tells them.
-/
import Derived.Test.YtimkinpbimangaaOrder2
import Derived.Laws.EntriesVeiled
namespace Go.Proofs.Ytimkinpbimangaa
open Go.ChangeShapes Go.WideShapes Go.ChangeAt Go.RowKit
set_option linter.unusedVariables false
set_option linter.unusedSimpArgs false

set_option maxRecDepth 100000 in
set_option maxHeartbeats 1000000 in
theorem bounds_lt (g : Nat) (a1 a2 b1 b2 c : Int) (w : World) (eg : ∀ args w, (callFunc g args).run Try.prog w = .ok (.enter g args) w) (hc : decide (c < 0) = true)
    (HC : Hid (∀ W, Calls Try.prog g #[.agg #[.int .i64 b1, .int .i64 b2], .agg #[.int .i64 a1, .int .i64 a2]] W fun e w' => e = .returned (.int .i64 c) ∧ Below W.heap.size W w')) :
    Calls Try.prog 89 #[.agg #[.int .i64 a1, .int .i64 a2], .agg #[.int .i64 b1, .int .i64 b2], .func (.func g) #[] #[]] w fun e w' => e = .returned (.tuple #[.agg #[.int .i64 b1, .int .i64 b2], .agg #[.int .i64 a1, .int .i64 a2]]) ∧ Below w.heap.size w w' := by
  go_enter Try.func89, Try.ntmps89
  go_wp2_with fail
  refine (unhide HC _).mono ?_
  rintro e w' ⟨rfl, hb⟩
  have k0 := keep1 hb (b := w.heap.size) (o := 0) (v := .int .i64 a1) (by simp (maxDischargeDepth := 12) [go_sem, le1, lt1, *])
  have k1 := keep1 hb (b := w.heap.size) (o := 1) (v := .int .i64 a2) (by simp (maxDischargeDepth := 12) [go_sem, le1, lt1, *])
  have k2 := keep1 hb (b := w.heap.size + 1) (o := 0) (v := .int .i64 b1) (by simp (maxDischargeDepth := 12) [go_sem, le1, lt1, *])
  have k3 := keep1 hb (b := w.heap.size + 1) (o := 1) (v := .int .i64 b2) (by simp (maxDischargeDepth := 12) [go_sem, le1, lt1, *])
  have k4 := keep1 hb (b := w.heap.size + 1 + 1) (o := 0) (v := .int .i64 0) (by simp (maxDischargeDepth := 12) [go_sem, le1, lt1, *])
  have k5 := keep1 hb (b := w.heap.size + 1 + 1) (o := 1) (v := .int .i64 0) (by simp (maxDischargeDepth := 12) [go_sem, le1, lt1, *])
  have k6 := keep1 hb (b := w.heap.size + 1 + 1 + 1) (o := 0) (v := .int .i64 0) (by simp (maxDischargeDepth := 12) [go_sem, le1, lt1, *])
  have k7 := keep1 hb (b := w.heap.size + 1 + 1 + 1) (o := 1) (v := .int .i64 0) (by simp (maxDischargeDepth := 12) [go_sem, le1, lt1, *])
  have z1 := fun o => keepz hb (b := w.heap.size + 1 + 1) (o := o) (by simp) (by simp (maxDischargeDepth := 12) [go_sem, le1, lt1, *])
  have z2 := fun o => keepz hb (b := w.heap.size + 1 + 1 + 1) (o := o) (by simp) (by simp (maxDischargeDepth := 12) [go_sem, le1, lt1, *])
  have HB := hide hb
  clear hb
  go_wp2_with fail
  go_region
  all_goals
    go_wp2_with fail
    refine bodyPost_ret (v := .tuple #[.agg #[.int .i64 b1, .int .i64 b2], .agg #[.int .i64 a1, .int .i64 a2]]) (by simp [results, Try.results89, go_sem, *]) rfl ⟨rfl, ?_⟩
    repeat (first | refine Below.setCell ?_ (by simp; omega) _ | refine Below.drew ?_ | refine bc ?_ (unhide HB))
    exact ba (ba (ba (ba (Below.refl _ _) _) _) _) _

set_option maxRecDepth 100000 in
set_option maxHeartbeats 1000000 in
theorem bounds_ge (g : Nat) (a1 a2 b1 b2 c : Int) (w : World) (eg : ∀ args w, (callFunc g args).run Try.prog w = .ok (.enter g args) w) (hc : decide (c < 0) = false)
    (HC : Hid (∀ W, Calls Try.prog g #[.agg #[.int .i64 b1, .int .i64 b2], .agg #[.int .i64 a1, .int .i64 a2]] W fun e w' => e = .returned (.int .i64 c) ∧ Below W.heap.size W w')) :
    Calls Try.prog 89 #[.agg #[.int .i64 a1, .int .i64 a2], .agg #[.int .i64 b1, .int .i64 b2], .func (.func g) #[] #[]] w fun e w' => e = .returned (.tuple #[.agg #[.int .i64 a1, .int .i64 a2], .agg #[.int .i64 b1, .int .i64 b2]]) ∧ Below w.heap.size w w' := by
  go_enter Try.func89, Try.ntmps89
  go_wp2_with fail
  refine (unhide HC _).mono ?_
  rintro e w' ⟨rfl, hb⟩
  have k0 := keep1 hb (b := w.heap.size) (o := 0) (v := .int .i64 a1) (by simp (maxDischargeDepth := 12) [go_sem, le1, lt1, *])
  have k1 := keep1 hb (b := w.heap.size) (o := 1) (v := .int .i64 a2) (by simp (maxDischargeDepth := 12) [go_sem, le1, lt1, *])
  have k2 := keep1 hb (b := w.heap.size + 1) (o := 0) (v := .int .i64 b1) (by simp (maxDischargeDepth := 12) [go_sem, le1, lt1, *])
  have k3 := keep1 hb (b := w.heap.size + 1) (o := 1) (v := .int .i64 b2) (by simp (maxDischargeDepth := 12) [go_sem, le1, lt1, *])
  have k4 := keep1 hb (b := w.heap.size + 1 + 1) (o := 0) (v := .int .i64 0) (by simp (maxDischargeDepth := 12) [go_sem, le1, lt1, *])
  have k5 := keep1 hb (b := w.heap.size + 1 + 1) (o := 1) (v := .int .i64 0) (by simp (maxDischargeDepth := 12) [go_sem, le1, lt1, *])
  have k6 := keep1 hb (b := w.heap.size + 1 + 1 + 1) (o := 0) (v := .int .i64 0) (by simp (maxDischargeDepth := 12) [go_sem, le1, lt1, *])
  have k7 := keep1 hb (b := w.heap.size + 1 + 1 + 1) (o := 1) (v := .int .i64 0) (by simp (maxDischargeDepth := 12) [go_sem, le1, lt1, *])
  have z1 := fun o => keepz hb (b := w.heap.size + 1 + 1) (o := o) (by simp) (by simp (maxDischargeDepth := 12) [go_sem, le1, lt1, *])
  have z2 := fun o => keepz hb (b := w.heap.size + 1 + 1 + 1) (o := o) (by simp) (by simp (maxDischargeDepth := 12) [go_sem, le1, lt1, *])
  have HB := hide hb
  clear hb
  go_wp2_with fail
  go_region
  all_goals
    go_wp2_with fail
    refine bodyPost_ret (v := .tuple #[.agg #[.int .i64 a1, .int .i64 a2], .agg #[.int .i64 b1, .int .i64 b2]]) (by simp [results, Try.results89, go_sem, *]) rfl ⟨rfl, ?_⟩
    repeat (first | refine Below.setCell ?_ (by simp; omega) _ | refine Below.drew ?_ | refine bc ?_ (unhide HB))
    exact ba (ba (ba (ba (Below.refl _ _) _) _) _) _
end Go.Proofs.Ytimkinpbimangaa
