/-
  What two segments of one line have in common, as the model finds it, where the ends stand in their order.
-/
import Derived.Test.YtimkinpbimangaaAlongP
import Derived.Test.YtimkinpbimangaaAlongMe
namespace Go.Proofs.Ytimkinpbimangaa
open Go.ChangeShapes Go.WideShapes Go.ChangeAt Go.RowKit
set_option linter.unusedVariables false
set_option linter.unusedSimpArgs false

set_option maxRecDepth 100000 in
set_option maxHeartbeats 2000000 in
theorem alongM_gt_ab (a1 a2 b1 b2 c1 c2 d1 d2 : Int) (w : World)
    (L1 : Hid (∀ W, Calls Try.prog 91 #[.agg #[.int .i64 b1, .int .i64 b2], .agg #[.int .i64 a1, .int .i64 a2]] W fun e w' => e = .returned (.bool false) ∧ Below W.heap.size W w'))
    (L2 : Hid (∀ W, Calls Try.prog 91 #[.agg #[.int .i64 d1, .int .i64 d2], .agg #[.int .i64 c1, .int .i64 c2]] W fun e w' => e = .returned (.bool false) ∧ Below W.heap.size W w'))
    (L3 : Hid (∀ W, Calls Try.prog 91 #[.agg #[.int .i64 a1, .int .i64 a2], .agg #[.int .i64 c1, .int .i64 c2]] W fun e w' => e = .returned (.bool false) ∧ Below W.heap.size W w'))
    (L4 : Hid (∀ W, Calls Try.prog 91 #[.agg #[.int .i64 d1, .int .i64 d2], .agg #[.int .i64 b1, .int .i64 b2]] W fun e w' => e = .returned (.bool false) ∧ Below W.heap.size W w'))
    (qq : (a1 == b1) = false ∨ (a1 == b1) = true ∧ (a2 == b2) = false)
    (L5 : Hid (∀ W, Calls Try.prog 91 #[.agg #[.int .i64 a1, .int .i64 a2], .agg #[.int .i64 b1, .int .i64 b2]] W fun e w' => e = .returned (.bool false) ∧ Below W.heap.size W w')) :
    Calls Try.prog 77 #[.agg #[.int .i64 a1, .int .i64 a2], .agg #[.int .i64 b1, .int .i64 b2], .agg #[.int .i64 c1, .int .i64 c2], .agg #[.int .i64 d1, .int .i64 d2]] w fun e w' => (∃ k, e = .returned (.slice (some ⟨k, 0, none⟩) 0 0) ∧ w.heap.size ≤ k ∧ w'.heap[k]? = some (.cells #[] 93 (0, 0))) ∧ Below w.heap.size w w' := by
  rcases qq with q1 | ⟨q1, q2⟩
  all_goals
    go_enter Try.func77, Try.ntmps77
    go_wp2_with fail
    refine (unhide L1 _).mono ?_
    rintro e W1 ⟨rfl, hb⟩
    have k1_0 := keep1 hb (b := w.heap.size) (o := 0) (v := .int .i64 a1) (by simp (maxDischargeDepth := 12) [go_sem, le1, lt1, *])
    have k1_1 := keep1 hb (b := w.heap.size) (o := 1) (v := .int .i64 a2) (by simp (maxDischargeDepth := 12) [go_sem, le1, lt1, *])
    have k1_2 := keep1 hb (b := w.heap.size + 1) (o := 0) (v := .int .i64 b1) (by simp (maxDischargeDepth := 12) [go_sem, le1, lt1, *])
    have k1_3 := keep1 hb (b := w.heap.size + 1) (o := 1) (v := .int .i64 b2) (by simp (maxDischargeDepth := 12) [go_sem, le1, lt1, *])
    have k1_4 := keep1 hb (b := w.heap.size + 1 + 1) (o := 0) (v := .int .i64 c1) (by simp (maxDischargeDepth := 12) [go_sem, le1, lt1, *])
    have k1_5 := keep1 hb (b := w.heap.size + 1 + 1) (o := 1) (v := .int .i64 c2) (by simp (maxDischargeDepth := 12) [go_sem, le1, lt1, *])
    have k1_6 := keep1 hb (b := w.heap.size + 1 + 1 + 1) (o := 0) (v := .int .i64 d1) (by simp (maxDischargeDepth := 12) [go_sem, le1, lt1, *])
    have k1_7 := keep1 hb (b := w.heap.size + 1 + 1 + 1) (o := 1) (v := .int .i64 d2) (by simp (maxDischargeDepth := 12) [go_sem, le1, lt1, *])
    have HB1 := hide hb
    clear hb
    have lak1_0 := cell_lt k1_0
    have lbk1_0 := Nat.le_of_lt lak1_0
    have lck1_0 := lt1 (k := 1) lak1_0
    have ldk1_0 := lt1 (k := 1) lck1_0
    have lek1_0 := lt1 (k := 1) ldk1_0
    have lnk1_0 := Nat.ne_of_lt lak1_0
    have lmk1_0 := (Nat.ne_of_lt lak1_0).symm
    have lak1_2 := cell_lt k1_2
    have lbk1_2 := Nat.le_of_lt lak1_2
    have lck1_2 := lt1 (k := 1) lak1_2
    have ldk1_2 := lt1 (k := 1) lck1_2
    have lek1_2 := lt1 (k := 1) ldk1_2
    have lnk1_2 := Nat.ne_of_lt lak1_2
    have lmk1_2 := (Nat.ne_of_lt lak1_2).symm
    have lak1_4 := cell_lt k1_4
    have lbk1_4 := Nat.le_of_lt lak1_4
    have lck1_4 := lt1 (k := 1) lak1_4
    have ldk1_4 := lt1 (k := 1) lck1_4
    have lek1_4 := lt1 (k := 1) ldk1_4
    have lnk1_4 := Nat.ne_of_lt lak1_4
    have lmk1_4 := (Nat.ne_of_lt lak1_4).symm
    have lak1_6 := cell_lt k1_6
    have lbk1_6 := Nat.le_of_lt lak1_6
    have lck1_6 := lt1 (k := 1) lak1_6
    have ldk1_6 := lt1 (k := 1) lck1_6
    have lek1_6 := lt1 (k := 1) ldk1_6
    have lnk1_6 := Nat.ne_of_lt lak1_6
    have lmk1_6 := (Nat.ne_of_lt lak1_6).symm
    go_wp2_with fail
    refine (unhide L2 _).mono ?_
    rintro e W2 ⟨rfl, hb⟩
    have k2_0 := keep1 hb (b := w.heap.size) (o := 0) (v := .int .i64 a1) (by simp (maxDischargeDepth := 12) [go_sem, le1, lt1, *])
    have k2_1 := keep1 hb (b := w.heap.size) (o := 1) (v := .int .i64 a2) (by simp (maxDischargeDepth := 12) [go_sem, le1, lt1, *])
    have k2_2 := keep1 hb (b := w.heap.size + 1) (o := 0) (v := .int .i64 b1) (by simp (maxDischargeDepth := 12) [go_sem, le1, lt1, *])
    have k2_3 := keep1 hb (b := w.heap.size + 1) (o := 1) (v := .int .i64 b2) (by simp (maxDischargeDepth := 12) [go_sem, le1, lt1, *])
    have k2_4 := keep1 hb (b := w.heap.size + 1 + 1) (o := 0) (v := .int .i64 c1) (by simp (maxDischargeDepth := 12) [go_sem, le1, lt1, *])
    have k2_5 := keep1 hb (b := w.heap.size + 1 + 1) (o := 1) (v := .int .i64 c2) (by simp (maxDischargeDepth := 12) [go_sem, le1, lt1, *])
    have k2_6 := keep1 hb (b := w.heap.size + 1 + 1 + 1) (o := 0) (v := .int .i64 d1) (by simp (maxDischargeDepth := 12) [go_sem, le1, lt1, *])
    have k2_7 := keep1 hb (b := w.heap.size + 1 + 1 + 1) (o := 1) (v := .int .i64 d2) (by simp (maxDischargeDepth := 12) [go_sem, le1, lt1, *])
    have HB2 := hide hb
    clear hb
    clear k1_0 k1_1 k1_2 k1_3 k1_4 k1_5 k1_6 k1_7 lak1_0 lbk1_0 lck1_0 ldk1_0 lek1_0 lak1_2 lbk1_2 lck1_2 ldk1_2 lek1_2 lak1_4 lbk1_4 lck1_4 ldk1_4 lek1_4 lak1_6 lbk1_6 lck1_6 ldk1_6 lek1_6
    have lak2_0 := cell_lt k2_0
    have lbk2_0 := Nat.le_of_lt lak2_0
    have lck2_0 := lt1 (k := 1) lak2_0
    have ldk2_0 := lt1 (k := 1) lck2_0
    have lek2_0 := lt1 (k := 1) ldk2_0
    have lnk2_0 := Nat.ne_of_lt lak2_0
    have lmk2_0 := (Nat.ne_of_lt lak2_0).symm
    have lak2_2 := cell_lt k2_2
    have lbk2_2 := Nat.le_of_lt lak2_2
    have lck2_2 := lt1 (k := 1) lak2_2
    have ldk2_2 := lt1 (k := 1) lck2_2
    have lek2_2 := lt1 (k := 1) ldk2_2
    have lnk2_2 := Nat.ne_of_lt lak2_2
    have lmk2_2 := (Nat.ne_of_lt lak2_2).symm
    have lak2_4 := cell_lt k2_4
    have lbk2_4 := Nat.le_of_lt lak2_4
    have lck2_4 := lt1 (k := 1) lak2_4
    have ldk2_4 := lt1 (k := 1) lck2_4
    have lek2_4 := lt1 (k := 1) ldk2_4
    have lnk2_4 := Nat.ne_of_lt lak2_4
    have lmk2_4 := (Nat.ne_of_lt lak2_4).symm
    have lak2_6 := cell_lt k2_6
    have lbk2_6 := Nat.le_of_lt lak2_6
    have lck2_6 := lt1 (k := 1) lak2_6
    have ldk2_6 := lt1 (k := 1) lck2_6
    have lek2_6 := lt1 (k := 1) ldk2_6
    have lnk2_6 := Nat.ne_of_lt lak2_6
    have lmk2_6 := (Nat.ne_of_lt lak2_6).symm
    go_wp2_with fail
    refine (unhide L3 _).mono ?_
    rintro e W3 ⟨rfl, hb⟩
    have k3_0 := keep1 hb (b := w.heap.size) (o := 0) (v := .int .i64 a1) (by simp (maxDischargeDepth := 12) [go_sem, le1, lt1, *])
    have k3_1 := keep1 hb (b := w.heap.size) (o := 1) (v := .int .i64 a2) (by simp (maxDischargeDepth := 12) [go_sem, le1, lt1, *])
    have k3_2 := keep1 hb (b := w.heap.size + 1) (o := 0) (v := .int .i64 b1) (by simp (maxDischargeDepth := 12) [go_sem, le1, lt1, *])
    have k3_3 := keep1 hb (b := w.heap.size + 1) (o := 1) (v := .int .i64 b2) (by simp (maxDischargeDepth := 12) [go_sem, le1, lt1, *])
    have k3_4 := keep1 hb (b := w.heap.size + 1 + 1) (o := 0) (v := .int .i64 c1) (by simp (maxDischargeDepth := 12) [go_sem, le1, lt1, *])
    have k3_5 := keep1 hb (b := w.heap.size + 1 + 1) (o := 1) (v := .int .i64 c2) (by simp (maxDischargeDepth := 12) [go_sem, le1, lt1, *])
    have k3_6 := keep1 hb (b := w.heap.size + 1 + 1 + 1) (o := 0) (v := .int .i64 d1) (by simp (maxDischargeDepth := 12) [go_sem, le1, lt1, *])
    have k3_7 := keep1 hb (b := w.heap.size + 1 + 1 + 1) (o := 1) (v := .int .i64 d2) (by simp (maxDischargeDepth := 12) [go_sem, le1, lt1, *])
    have k3_8 := keep1 hb (b := W2.heap.size) (o := 0) (v := .int .i64 a1) (by simp (maxDischargeDepth := 12) [go_sem, le1, lt1, *])
    have k3_9 := keep1 hb (b := W2.heap.size) (o := 1) (v := .int .i64 a2) (by simp (maxDischargeDepth := 12) [go_sem, le1, lt1, *])
    have z3 := fun o => keepz hb (b := W2.heap.size) (o := o) (by simp) (by simp (maxDischargeDepth := 12) [go_sem, le1, lt1, *])
    have HB3 := hide hb
    clear hb
    clear k2_0 k2_1 k2_2 k2_3 k2_4 k2_5 k2_6 k2_7 lak2_0 lbk2_0 lck2_0 ldk2_0 lek2_0 lak2_2 lbk2_2 lck2_2 ldk2_2 lek2_2 lak2_4 lbk2_4 lck2_4 ldk2_4 lek2_4 lak2_6 lbk2_6 lck2_6 ldk2_6 lek2_6
    have lak3_0 := cell_lt k3_0
    have lbk3_0 := Nat.le_of_lt lak3_0
    have lck3_0 := lt1 (k := 1) lak3_0
    have ldk3_0 := lt1 (k := 1) lck3_0
    have lek3_0 := lt1 (k := 1) ldk3_0
    have lnk3_0 := Nat.ne_of_lt lak3_0
    have lmk3_0 := (Nat.ne_of_lt lak3_0).symm
    have lak3_2 := cell_lt k3_2
    have lbk3_2 := Nat.le_of_lt lak3_2
    have lck3_2 := lt1 (k := 1) lak3_2
    have ldk3_2 := lt1 (k := 1) lck3_2
    have lek3_2 := lt1 (k := 1) ldk3_2
    have lnk3_2 := Nat.ne_of_lt lak3_2
    have lmk3_2 := (Nat.ne_of_lt lak3_2).symm
    have lak3_4 := cell_lt k3_4
    have lbk3_4 := Nat.le_of_lt lak3_4
    have lck3_4 := lt1 (k := 1) lak3_4
    have ldk3_4 := lt1 (k := 1) lck3_4
    have lek3_4 := lt1 (k := 1) ldk3_4
    have lnk3_4 := Nat.ne_of_lt lak3_4
    have lmk3_4 := (Nat.ne_of_lt lak3_4).symm
    have lak3_6 := cell_lt k3_6
    have lbk3_6 := Nat.le_of_lt lak3_6
    have lck3_6 := lt1 (k := 1) lak3_6
    have ldk3_6 := lt1 (k := 1) lck3_6
    have lek3_6 := lt1 (k := 1) ldk3_6
    have lnk3_6 := Nat.ne_of_lt lak3_6
    have lmk3_6 := (Nat.ne_of_lt lak3_6).symm
    have lak3_8 := cell_lt k3_8
    have lbk3_8 := Nat.le_of_lt lak3_8
    have lck3_8 := lt1 (k := 1) lak3_8
    have ldk3_8 := lt1 (k := 1) lck3_8
    have lek3_8 := lt1 (k := 1) ldk3_8
    have lnk3_8 := Nat.ne_of_lt lak3_8
    have lmk3_8 := (Nat.ne_of_lt lak3_8).symm
    go_wp2_with fail
    refine (unhide L4 _).mono ?_
    rintro e W4 ⟨rfl, hb⟩
    have k4_0 := keep1 hb (b := w.heap.size) (o := 0) (v := .int .i64 a1) (by simp (maxDischargeDepth := 12) [go_sem, le1, lt1, *])
    have k4_1 := keep1 hb (b := w.heap.size) (o := 1) (v := .int .i64 a2) (by simp (maxDischargeDepth := 12) [go_sem, le1, lt1, *])
    have k4_2 := keep1 hb (b := w.heap.size + 1) (o := 0) (v := .int .i64 b1) (by simp (maxDischargeDepth := 12) [go_sem, le1, lt1, *])
    have k4_3 := keep1 hb (b := w.heap.size + 1) (o := 1) (v := .int .i64 b2) (by simp (maxDischargeDepth := 12) [go_sem, le1, lt1, *])
    have k4_4 := keep1 hb (b := w.heap.size + 1 + 1) (o := 0) (v := .int .i64 c1) (by simp (maxDischargeDepth := 12) [go_sem, le1, lt1, *])
    have k4_5 := keep1 hb (b := w.heap.size + 1 + 1) (o := 1) (v := .int .i64 c2) (by simp (maxDischargeDepth := 12) [go_sem, le1, lt1, *])
    have k4_6 := keep1 hb (b := w.heap.size + 1 + 1 + 1) (o := 0) (v := .int .i64 d1) (by simp (maxDischargeDepth := 12) [go_sem, le1, lt1, *])
    have k4_7 := keep1 hb (b := w.heap.size + 1 + 1 + 1) (o := 1) (v := .int .i64 d2) (by simp (maxDischargeDepth := 12) [go_sem, le1, lt1, *])
    have k4_8 := keep1 hb (b := W2.heap.size) (o := 0) (v := .int .i64 a1) (by simp (maxDischargeDepth := 12) [go_sem, le1, lt1, *])
    have k4_9 := keep1 hb (b := W2.heap.size) (o := 1) (v := .int .i64 a2) (by simp (maxDischargeDepth := 12) [go_sem, le1, lt1, *])
    have k4_10 := keep1 hb (b := W3.heap.size) (o := 0) (v := .int .i64 b1) (by simp (maxDischargeDepth := 12) [go_sem, le1, lt1, *])
    have k4_11 := keep1 hb (b := W3.heap.size) (o := 1) (v := .int .i64 b2) (by simp (maxDischargeDepth := 12) [go_sem, le1, lt1, *])
    have z4 := fun o => keepz hb (b := W3.heap.size) (o := o) (by simp) (by simp (maxDischargeDepth := 12) [go_sem, le1, lt1, *])
    have HB4 := hide hb
    clear hb
    clear k3_0 k3_1 k3_2 k3_3 k3_4 k3_5 k3_6 k3_7 k3_8 k3_9 lak3_0 lbk3_0 lck3_0 ldk3_0 lek3_0 lak3_2 lbk3_2 lck3_2 ldk3_2 lek3_2 lak3_4 lbk3_4 lck3_4 ldk3_4 lek3_4 lak3_6 lbk3_6 lck3_6 ldk3_6 lek3_6 lak3_8 lbk3_8 lck3_8 ldk3_8 lek3_8
    have lak4_0 := cell_lt k4_0
    have lbk4_0 := Nat.le_of_lt lak4_0
    have lck4_0 := lt1 (k := 1) lak4_0
    have ldk4_0 := lt1 (k := 1) lck4_0
    have lek4_0 := lt1 (k := 1) ldk4_0
    have lnk4_0 := Nat.ne_of_lt lak4_0
    have lmk4_0 := (Nat.ne_of_lt lak4_0).symm
    have lak4_2 := cell_lt k4_2
    have lbk4_2 := Nat.le_of_lt lak4_2
    have lck4_2 := lt1 (k := 1) lak4_2
    have ldk4_2 := lt1 (k := 1) lck4_2
    have lek4_2 := lt1 (k := 1) ldk4_2
    have lnk4_2 := Nat.ne_of_lt lak4_2
    have lmk4_2 := (Nat.ne_of_lt lak4_2).symm
    have lak4_4 := cell_lt k4_4
    have lbk4_4 := Nat.le_of_lt lak4_4
    have lck4_4 := lt1 (k := 1) lak4_4
    have ldk4_4 := lt1 (k := 1) lck4_4
    have lek4_4 := lt1 (k := 1) ldk4_4
    have lnk4_4 := Nat.ne_of_lt lak4_4
    have lmk4_4 := (Nat.ne_of_lt lak4_4).symm
    have lak4_6 := cell_lt k4_6
    have lbk4_6 := Nat.le_of_lt lak4_6
    have lck4_6 := lt1 (k := 1) lak4_6
    have ldk4_6 := lt1 (k := 1) lck4_6
    have lek4_6 := lt1 (k := 1) ldk4_6
    have lnk4_6 := Nat.ne_of_lt lak4_6
    have lmk4_6 := (Nat.ne_of_lt lak4_6).symm
    have lak4_8 := cell_lt k4_8
    have lbk4_8 := Nat.le_of_lt lak4_8
    have lck4_8 := lt1 (k := 1) lak4_8
    have ldk4_8 := lt1 (k := 1) lck4_8
    have lek4_8 := lt1 (k := 1) ldk4_8
    have lnk4_8 := Nat.ne_of_lt lak4_8
    have lmk4_8 := (Nat.ne_of_lt lak4_8).symm
    have lak4_10 := cell_lt k4_10
    have lbk4_10 := Nat.le_of_lt lak4_10
    have lck4_10 := lt1 (k := 1) lak4_10
    have ldk4_10 := lt1 (k := 1) lck4_10
    have lek4_10 := lt1 (k := 1) ldk4_10
    have lnk4_10 := Nat.ne_of_lt lak4_10
    have lmk4_10 := (Nat.ne_of_lt lak4_10).symm
    have E4 : Hid (Below w.heap.size w W4) := by
      refine hide (bc ?_ (unhide HB4))
      refine ba ?_ _
      refine bc ?_ (unhide HB3)
      refine ba ?_ _
      refine bc ?_ (unhide HB2)
      refine bc ?_ (unhide HB1)
      exact ba (ba (ba (ba (Below.refl _ _) _) _) _) _
    have le4 : w.heap.size ≤ W3.heap.size := by
      have := (unhide HB1).size
      have := (unhide HB2).size
      have := (unhide HB3).size
      simp at *
      omega
    clear HB1 HB2 HB3 HB4 z3
    go_wp2_with fail
    refine (unhide L5 _).mono ?_
    rintro e W5 ⟨rfl, hb⟩
    have HB5 := hide hb
    clear hb
    clear k4_0 k4_1 k4_2 k4_3 k4_4 k4_5 k4_6 k4_7 k4_8 k4_9 k4_10 k4_11 lak4_0 lbk4_0 lck4_0 ldk4_0 lek4_0 lak4_2 lbk4_2 lck4_2 ldk4_2 lek4_2 lak4_4 lbk4_4 lck4_4 ldk4_4 lek4_4 lak4_6 lbk4_6 lck4_6 ldk4_6 lek4_6 lak4_8 lbk4_8 lck4_8 ldk4_8 lek4_8 lak4_10 lbk4_10 lck4_10 ldk4_10 lek4_10
    have E6 := hide (bc (unhide E4) (unhide HB5))
    clear E4 HB5
    go_wp2_with fail
    go_ret
    exact ⟨⟨_, rfl, (unhide E6).size, blk_new _ _⟩, ba (unhide E6) _⟩

set_option maxRecDepth 100000 in
set_option maxHeartbeats 2000000 in
theorem alongM_gt_ad (a1 a2 b1 b2 c1 c2 d1 d2 : Int) (w : World)
    (L1 : Hid (∀ W, Calls Try.prog 91 #[.agg #[.int .i64 b1, .int .i64 b2], .agg #[.int .i64 a1, .int .i64 a2]] W fun e w' => e = .returned (.bool false) ∧ Below W.heap.size W w'))
    (L2 : Hid (∀ W, Calls Try.prog 91 #[.agg #[.int .i64 d1, .int .i64 d2], .agg #[.int .i64 c1, .int .i64 c2]] W fun e w' => e = .returned (.bool false) ∧ Below W.heap.size W w'))
    (L3 : Hid (∀ W, Calls Try.prog 91 #[.agg #[.int .i64 a1, .int .i64 a2], .agg #[.int .i64 c1, .int .i64 c2]] W fun e w' => e = .returned (.bool false) ∧ Below W.heap.size W w'))
    (L4 : Hid (∀ W, Calls Try.prog 91 #[.agg #[.int .i64 d1, .int .i64 d2], .agg #[.int .i64 b1, .int .i64 b2]] W fun e w' => e = .returned (.bool true) ∧ Below W.heap.size W w'))
    (qq : (a1 == d1) = false ∨ (a1 == d1) = true ∧ (a2 == d2) = false)
    (L5 : Hid (∀ W, Calls Try.prog 91 #[.agg #[.int .i64 a1, .int .i64 a2], .agg #[.int .i64 d1, .int .i64 d2]] W fun e w' => e = .returned (.bool false) ∧ Below W.heap.size W w')) :
    Calls Try.prog 77 #[.agg #[.int .i64 a1, .int .i64 a2], .agg #[.int .i64 b1, .int .i64 b2], .agg #[.int .i64 c1, .int .i64 c2], .agg #[.int .i64 d1, .int .i64 d2]] w fun e w' => (∃ k, e = .returned (.slice (some ⟨k, 0, none⟩) 0 0) ∧ w.heap.size ≤ k ∧ w'.heap[k]? = some (.cells #[] 93 (0, 0))) ∧ Below w.heap.size w w' := by
  rcases qq with q1 | ⟨q1, q2⟩
  all_goals
    go_enter Try.func77, Try.ntmps77
    go_wp2_with fail
    refine (unhide L1 _).mono ?_
    rintro e W1 ⟨rfl, hb⟩
    have k1_0 := keep1 hb (b := w.heap.size) (o := 0) (v := .int .i64 a1) (by simp (maxDischargeDepth := 12) [go_sem, le1, lt1, *])
    have k1_1 := keep1 hb (b := w.heap.size) (o := 1) (v := .int .i64 a2) (by simp (maxDischargeDepth := 12) [go_sem, le1, lt1, *])
    have k1_2 := keep1 hb (b := w.heap.size + 1) (o := 0) (v := .int .i64 b1) (by simp (maxDischargeDepth := 12) [go_sem, le1, lt1, *])
    have k1_3 := keep1 hb (b := w.heap.size + 1) (o := 1) (v := .int .i64 b2) (by simp (maxDischargeDepth := 12) [go_sem, le1, lt1, *])
    have k1_4 := keep1 hb (b := w.heap.size + 1 + 1) (o := 0) (v := .int .i64 c1) (by simp (maxDischargeDepth := 12) [go_sem, le1, lt1, *])
    have k1_5 := keep1 hb (b := w.heap.size + 1 + 1) (o := 1) (v := .int .i64 c2) (by simp (maxDischargeDepth := 12) [go_sem, le1, lt1, *])
    have k1_6 := keep1 hb (b := w.heap.size + 1 + 1 + 1) (o := 0) (v := .int .i64 d1) (by simp (maxDischargeDepth := 12) [go_sem, le1, lt1, *])
    have k1_7 := keep1 hb (b := w.heap.size + 1 + 1 + 1) (o := 1) (v := .int .i64 d2) (by simp (maxDischargeDepth := 12) [go_sem, le1, lt1, *])
    have HB1 := hide hb
    clear hb
    have lak1_0 := cell_lt k1_0
    have lbk1_0 := Nat.le_of_lt lak1_0
    have lck1_0 := lt1 (k := 1) lak1_0
    have ldk1_0 := lt1 (k := 1) lck1_0
    have lek1_0 := lt1 (k := 1) ldk1_0
    have lnk1_0 := Nat.ne_of_lt lak1_0
    have lmk1_0 := (Nat.ne_of_lt lak1_0).symm
    have lak1_2 := cell_lt k1_2
    have lbk1_2 := Nat.le_of_lt lak1_2
    have lck1_2 := lt1 (k := 1) lak1_2
    have ldk1_2 := lt1 (k := 1) lck1_2
    have lek1_2 := lt1 (k := 1) ldk1_2
    have lnk1_2 := Nat.ne_of_lt lak1_2
    have lmk1_2 := (Nat.ne_of_lt lak1_2).symm
    have lak1_4 := cell_lt k1_4
    have lbk1_4 := Nat.le_of_lt lak1_4
    have lck1_4 := lt1 (k := 1) lak1_4
    have ldk1_4 := lt1 (k := 1) lck1_4
    have lek1_4 := lt1 (k := 1) ldk1_4
    have lnk1_4 := Nat.ne_of_lt lak1_4
    have lmk1_4 := (Nat.ne_of_lt lak1_4).symm
    have lak1_6 := cell_lt k1_6
    have lbk1_6 := Nat.le_of_lt lak1_6
    have lck1_6 := lt1 (k := 1) lak1_6
    have ldk1_6 := lt1 (k := 1) lck1_6
    have lek1_6 := lt1 (k := 1) ldk1_6
    have lnk1_6 := Nat.ne_of_lt lak1_6
    have lmk1_6 := (Nat.ne_of_lt lak1_6).symm
    go_wp2_with fail
    refine (unhide L2 _).mono ?_
    rintro e W2 ⟨rfl, hb⟩
    have k2_0 := keep1 hb (b := w.heap.size) (o := 0) (v := .int .i64 a1) (by simp (maxDischargeDepth := 12) [go_sem, le1, lt1, *])
    have k2_1 := keep1 hb (b := w.heap.size) (o := 1) (v := .int .i64 a2) (by simp (maxDischargeDepth := 12) [go_sem, le1, lt1, *])
    have k2_2 := keep1 hb (b := w.heap.size + 1) (o := 0) (v := .int .i64 b1) (by simp (maxDischargeDepth := 12) [go_sem, le1, lt1, *])
    have k2_3 := keep1 hb (b := w.heap.size + 1) (o := 1) (v := .int .i64 b2) (by simp (maxDischargeDepth := 12) [go_sem, le1, lt1, *])
    have k2_4 := keep1 hb (b := w.heap.size + 1 + 1) (o := 0) (v := .int .i64 c1) (by simp (maxDischargeDepth := 12) [go_sem, le1, lt1, *])
    have k2_5 := keep1 hb (b := w.heap.size + 1 + 1) (o := 1) (v := .int .i64 c2) (by simp (maxDischargeDepth := 12) [go_sem, le1, lt1, *])
    have k2_6 := keep1 hb (b := w.heap.size + 1 + 1 + 1) (o := 0) (v := .int .i64 d1) (by simp (maxDischargeDepth := 12) [go_sem, le1, lt1, *])
    have k2_7 := keep1 hb (b := w.heap.size + 1 + 1 + 1) (o := 1) (v := .int .i64 d2) (by simp (maxDischargeDepth := 12) [go_sem, le1, lt1, *])
    have HB2 := hide hb
    clear hb
    clear k1_0 k1_1 k1_2 k1_3 k1_4 k1_5 k1_6 k1_7 lak1_0 lbk1_0 lck1_0 ldk1_0 lek1_0 lak1_2 lbk1_2 lck1_2 ldk1_2 lek1_2 lak1_4 lbk1_4 lck1_4 ldk1_4 lek1_4 lak1_6 lbk1_6 lck1_6 ldk1_6 lek1_6
    have lak2_0 := cell_lt k2_0
    have lbk2_0 := Nat.le_of_lt lak2_0
    have lck2_0 := lt1 (k := 1) lak2_0
    have ldk2_0 := lt1 (k := 1) lck2_0
    have lek2_0 := lt1 (k := 1) ldk2_0
    have lnk2_0 := Nat.ne_of_lt lak2_0
    have lmk2_0 := (Nat.ne_of_lt lak2_0).symm
    have lak2_2 := cell_lt k2_2
    have lbk2_2 := Nat.le_of_lt lak2_2
    have lck2_2 := lt1 (k := 1) lak2_2
    have ldk2_2 := lt1 (k := 1) lck2_2
    have lek2_2 := lt1 (k := 1) ldk2_2
    have lnk2_2 := Nat.ne_of_lt lak2_2
    have lmk2_2 := (Nat.ne_of_lt lak2_2).symm
    have lak2_4 := cell_lt k2_4
    have lbk2_4 := Nat.le_of_lt lak2_4
    have lck2_4 := lt1 (k := 1) lak2_4
    have ldk2_4 := lt1 (k := 1) lck2_4
    have lek2_4 := lt1 (k := 1) ldk2_4
    have lnk2_4 := Nat.ne_of_lt lak2_4
    have lmk2_4 := (Nat.ne_of_lt lak2_4).symm
    have lak2_6 := cell_lt k2_6
    have lbk2_6 := Nat.le_of_lt lak2_6
    have lck2_6 := lt1 (k := 1) lak2_6
    have ldk2_6 := lt1 (k := 1) lck2_6
    have lek2_6 := lt1 (k := 1) ldk2_6
    have lnk2_6 := Nat.ne_of_lt lak2_6
    have lmk2_6 := (Nat.ne_of_lt lak2_6).symm
    go_wp2_with fail
    refine (unhide L3 _).mono ?_
    rintro e W3 ⟨rfl, hb⟩
    have k3_0 := keep1 hb (b := w.heap.size) (o := 0) (v := .int .i64 a1) (by simp (maxDischargeDepth := 12) [go_sem, le1, lt1, *])
    have k3_1 := keep1 hb (b := w.heap.size) (o := 1) (v := .int .i64 a2) (by simp (maxDischargeDepth := 12) [go_sem, le1, lt1, *])
    have k3_2 := keep1 hb (b := w.heap.size + 1) (o := 0) (v := .int .i64 b1) (by simp (maxDischargeDepth := 12) [go_sem, le1, lt1, *])
    have k3_3 := keep1 hb (b := w.heap.size + 1) (o := 1) (v := .int .i64 b2) (by simp (maxDischargeDepth := 12) [go_sem, le1, lt1, *])
    have k3_4 := keep1 hb (b := w.heap.size + 1 + 1) (o := 0) (v := .int .i64 c1) (by simp (maxDischargeDepth := 12) [go_sem, le1, lt1, *])
    have k3_5 := keep1 hb (b := w.heap.size + 1 + 1) (o := 1) (v := .int .i64 c2) (by simp (maxDischargeDepth := 12) [go_sem, le1, lt1, *])
    have k3_6 := keep1 hb (b := w.heap.size + 1 + 1 + 1) (o := 0) (v := .int .i64 d1) (by simp (maxDischargeDepth := 12) [go_sem, le1, lt1, *])
    have k3_7 := keep1 hb (b := w.heap.size + 1 + 1 + 1) (o := 1) (v := .int .i64 d2) (by simp (maxDischargeDepth := 12) [go_sem, le1, lt1, *])
    have k3_8 := keep1 hb (b := W2.heap.size) (o := 0) (v := .int .i64 a1) (by simp (maxDischargeDepth := 12) [go_sem, le1, lt1, *])
    have k3_9 := keep1 hb (b := W2.heap.size) (o := 1) (v := .int .i64 a2) (by simp (maxDischargeDepth := 12) [go_sem, le1, lt1, *])
    have z3 := fun o => keepz hb (b := W2.heap.size) (o := o) (by simp) (by simp (maxDischargeDepth := 12) [go_sem, le1, lt1, *])
    have HB3 := hide hb
    clear hb
    clear k2_0 k2_1 k2_2 k2_3 k2_4 k2_5 k2_6 k2_7 lak2_0 lbk2_0 lck2_0 ldk2_0 lek2_0 lak2_2 lbk2_2 lck2_2 ldk2_2 lek2_2 lak2_4 lbk2_4 lck2_4 ldk2_4 lek2_4 lak2_6 lbk2_6 lck2_6 ldk2_6 lek2_6
    have lak3_0 := cell_lt k3_0
    have lbk3_0 := Nat.le_of_lt lak3_0
    have lck3_0 := lt1 (k := 1) lak3_0
    have ldk3_0 := lt1 (k := 1) lck3_0
    have lek3_0 := lt1 (k := 1) ldk3_0
    have lnk3_0 := Nat.ne_of_lt lak3_0
    have lmk3_0 := (Nat.ne_of_lt lak3_0).symm
    have lak3_2 := cell_lt k3_2
    have lbk3_2 := Nat.le_of_lt lak3_2
    have lck3_2 := lt1 (k := 1) lak3_2
    have ldk3_2 := lt1 (k := 1) lck3_2
    have lek3_2 := lt1 (k := 1) ldk3_2
    have lnk3_2 := Nat.ne_of_lt lak3_2
    have lmk3_2 := (Nat.ne_of_lt lak3_2).symm
    have lak3_4 := cell_lt k3_4
    have lbk3_4 := Nat.le_of_lt lak3_4
    have lck3_4 := lt1 (k := 1) lak3_4
    have ldk3_4 := lt1 (k := 1) lck3_4
    have lek3_4 := lt1 (k := 1) ldk3_4
    have lnk3_4 := Nat.ne_of_lt lak3_4
    have lmk3_4 := (Nat.ne_of_lt lak3_4).symm
    have lak3_6 := cell_lt k3_6
    have lbk3_6 := Nat.le_of_lt lak3_6
    have lck3_6 := lt1 (k := 1) lak3_6
    have ldk3_6 := lt1 (k := 1) lck3_6
    have lek3_6 := lt1 (k := 1) ldk3_6
    have lnk3_6 := Nat.ne_of_lt lak3_6
    have lmk3_6 := (Nat.ne_of_lt lak3_6).symm
    have lak3_8 := cell_lt k3_8
    have lbk3_8 := Nat.le_of_lt lak3_8
    have lck3_8 := lt1 (k := 1) lak3_8
    have ldk3_8 := lt1 (k := 1) lck3_8
    have lek3_8 := lt1 (k := 1) ldk3_8
    have lnk3_8 := Nat.ne_of_lt lak3_8
    have lmk3_8 := (Nat.ne_of_lt lak3_8).symm
    go_wp2_with fail
    refine (unhide L4 _).mono ?_
    rintro e W4 ⟨rfl, hb⟩
    have k4_0 := keep1 hb (b := w.heap.size) (o := 0) (v := .int .i64 a1) (by simp (maxDischargeDepth := 12) [go_sem, le1, lt1, *])
    have k4_1 := keep1 hb (b := w.heap.size) (o := 1) (v := .int .i64 a2) (by simp (maxDischargeDepth := 12) [go_sem, le1, lt1, *])
    have k4_2 := keep1 hb (b := w.heap.size + 1) (o := 0) (v := .int .i64 b1) (by simp (maxDischargeDepth := 12) [go_sem, le1, lt1, *])
    have k4_3 := keep1 hb (b := w.heap.size + 1) (o := 1) (v := .int .i64 b2) (by simp (maxDischargeDepth := 12) [go_sem, le1, lt1, *])
    have k4_4 := keep1 hb (b := w.heap.size + 1 + 1) (o := 0) (v := .int .i64 c1) (by simp (maxDischargeDepth := 12) [go_sem, le1, lt1, *])
    have k4_5 := keep1 hb (b := w.heap.size + 1 + 1) (o := 1) (v := .int .i64 c2) (by simp (maxDischargeDepth := 12) [go_sem, le1, lt1, *])
    have k4_6 := keep1 hb (b := w.heap.size + 1 + 1 + 1) (o := 0) (v := .int .i64 d1) (by simp (maxDischargeDepth := 12) [go_sem, le1, lt1, *])
    have k4_7 := keep1 hb (b := w.heap.size + 1 + 1 + 1) (o := 1) (v := .int .i64 d2) (by simp (maxDischargeDepth := 12) [go_sem, le1, lt1, *])
    have k4_8 := keep1 hb (b := W2.heap.size) (o := 0) (v := .int .i64 a1) (by simp (maxDischargeDepth := 12) [go_sem, le1, lt1, *])
    have k4_9 := keep1 hb (b := W2.heap.size) (o := 1) (v := .int .i64 a2) (by simp (maxDischargeDepth := 12) [go_sem, le1, lt1, *])
    have k4_10 := keep1 hb (b := W3.heap.size) (o := 0) (v := .int .i64 b1) (by simp (maxDischargeDepth := 12) [go_sem, le1, lt1, *])
    have k4_11 := keep1 hb (b := W3.heap.size) (o := 1) (v := .int .i64 b2) (by simp (maxDischargeDepth := 12) [go_sem, le1, lt1, *])
    have z4 := fun o => keepz hb (b := W3.heap.size) (o := o) (by simp) (by simp (maxDischargeDepth := 12) [go_sem, le1, lt1, *])
    have HB4 := hide hb
    clear hb
    clear k3_0 k3_1 k3_2 k3_3 k3_4 k3_5 k3_6 k3_7 k3_8 k3_9 lak3_0 lbk3_0 lck3_0 ldk3_0 lek3_0 lak3_2 lbk3_2 lck3_2 ldk3_2 lek3_2 lak3_4 lbk3_4 lck3_4 ldk3_4 lek3_4 lak3_6 lbk3_6 lck3_6 ldk3_6 lek3_6 lak3_8 lbk3_8 lck3_8 ldk3_8 lek3_8
    have lak4_0 := cell_lt k4_0
    have lbk4_0 := Nat.le_of_lt lak4_0
    have lck4_0 := lt1 (k := 1) lak4_0
    have ldk4_0 := lt1 (k := 1) lck4_0
    have lek4_0 := lt1 (k := 1) ldk4_0
    have lnk4_0 := Nat.ne_of_lt lak4_0
    have lmk4_0 := (Nat.ne_of_lt lak4_0).symm
    have lak4_2 := cell_lt k4_2
    have lbk4_2 := Nat.le_of_lt lak4_2
    have lck4_2 := lt1 (k := 1) lak4_2
    have ldk4_2 := lt1 (k := 1) lck4_2
    have lek4_2 := lt1 (k := 1) ldk4_2
    have lnk4_2 := Nat.ne_of_lt lak4_2
    have lmk4_2 := (Nat.ne_of_lt lak4_2).symm
    have lak4_4 := cell_lt k4_4
    have lbk4_4 := Nat.le_of_lt lak4_4
    have lck4_4 := lt1 (k := 1) lak4_4
    have ldk4_4 := lt1 (k := 1) lck4_4
    have lek4_4 := lt1 (k := 1) ldk4_4
    have lnk4_4 := Nat.ne_of_lt lak4_4
    have lmk4_4 := (Nat.ne_of_lt lak4_4).symm
    have lak4_6 := cell_lt k4_6
    have lbk4_6 := Nat.le_of_lt lak4_6
    have lck4_6 := lt1 (k := 1) lak4_6
    have ldk4_6 := lt1 (k := 1) lck4_6
    have lek4_6 := lt1 (k := 1) ldk4_6
    have lnk4_6 := Nat.ne_of_lt lak4_6
    have lmk4_6 := (Nat.ne_of_lt lak4_6).symm
    have lak4_8 := cell_lt k4_8
    have lbk4_8 := Nat.le_of_lt lak4_8
    have lck4_8 := lt1 (k := 1) lak4_8
    have ldk4_8 := lt1 (k := 1) lck4_8
    have lek4_8 := lt1 (k := 1) ldk4_8
    have lnk4_8 := Nat.ne_of_lt lak4_8
    have lmk4_8 := (Nat.ne_of_lt lak4_8).symm
    have lak4_10 := cell_lt k4_10
    have lbk4_10 := Nat.le_of_lt lak4_10
    have lck4_10 := lt1 (k := 1) lak4_10
    have ldk4_10 := lt1 (k := 1) lck4_10
    have lek4_10 := lt1 (k := 1) ldk4_10
    have lnk4_10 := Nat.ne_of_lt lak4_10
    have lmk4_10 := (Nat.ne_of_lt lak4_10).symm
    have E4 : Hid (Below w.heap.size w W4) := by
      refine hide (bc ?_ (unhide HB4))
      refine ba ?_ _
      refine bc ?_ (unhide HB3)
      refine ba ?_ _
      refine bc ?_ (unhide HB2)
      refine bc ?_ (unhide HB1)
      exact ba (ba (ba (ba (Below.refl _ _) _) _) _) _
    have le4 : w.heap.size ≤ W3.heap.size := by
      have := (unhide HB1).size
      have := (unhide HB2).size
      have := (unhide HB3).size
      simp at *
      omega
    clear HB1 HB2 HB3 HB4 z3
    go_wp2_with fail
    refine (unhide L5 _).mono ?_
    rintro e W5 ⟨rfl, hb⟩
    have HB5 := hide hb
    clear hb
    clear k4_0 k4_1 k4_2 k4_3 k4_4 k4_5 k4_6 k4_7 k4_8 k4_9 k4_10 k4_11 lak4_0 lbk4_0 lck4_0 ldk4_0 lek4_0 lak4_2 lbk4_2 lck4_2 ldk4_2 lek4_2 lak4_4 lbk4_4 lck4_4 ldk4_4 lek4_4 lak4_6 lbk4_6 lck4_6 ldk4_6 lek4_6 lak4_8 lbk4_8 lck4_8 ldk4_8 lek4_8 lak4_10 lbk4_10 lck4_10 ldk4_10 lek4_10
    have E6 := hide (bc (Below.setCell (Below.setCell (unhide E4) le4 _) le4 _) (unhide HB5))
    clear E4 HB5
    go_wp2_with fail
    go_ret
    exact ⟨⟨_, rfl, (unhide E6).size, blk_new _ _⟩, ba (unhide E6) _⟩

set_option maxRecDepth 100000 in
set_option maxHeartbeats 2000000 in
theorem alongM_gt_cb (a1 a2 b1 b2 c1 c2 d1 d2 : Int) (w : World)
    (L1 : Hid (∀ W, Calls Try.prog 91 #[.agg #[.int .i64 b1, .int .i64 b2], .agg #[.int .i64 a1, .int .i64 a2]] W fun e w' => e = .returned (.bool false) ∧ Below W.heap.size W w'))
    (L2 : Hid (∀ W, Calls Try.prog 91 #[.agg #[.int .i64 d1, .int .i64 d2], .agg #[.int .i64 c1, .int .i64 c2]] W fun e w' => e = .returned (.bool false) ∧ Below W.heap.size W w'))
    (L3 : Hid (∀ W, Calls Try.prog 91 #[.agg #[.int .i64 a1, .int .i64 a2], .agg #[.int .i64 c1, .int .i64 c2]] W fun e w' => e = .returned (.bool true) ∧ Below W.heap.size W w'))
    (L4 : Hid (∀ W, Calls Try.prog 91 #[.agg #[.int .i64 d1, .int .i64 d2], .agg #[.int .i64 b1, .int .i64 b2]] W fun e w' => e = .returned (.bool false) ∧ Below W.heap.size W w'))
    (qq : (c1 == b1) = false ∨ (c1 == b1) = true ∧ (c2 == b2) = false)
    (L5 : Hid (∀ W, Calls Try.prog 91 #[.agg #[.int .i64 c1, .int .i64 c2], .agg #[.int .i64 b1, .int .i64 b2]] W fun e w' => e = .returned (.bool false) ∧ Below W.heap.size W w')) :
    Calls Try.prog 77 #[.agg #[.int .i64 a1, .int .i64 a2], .agg #[.int .i64 b1, .int .i64 b2], .agg #[.int .i64 c1, .int .i64 c2], .agg #[.int .i64 d1, .int .i64 d2]] w fun e w' => (∃ k, e = .returned (.slice (some ⟨k, 0, none⟩) 0 0) ∧ w.heap.size ≤ k ∧ w'.heap[k]? = some (.cells #[] 93 (0, 0))) ∧ Below w.heap.size w w' := by
  rcases qq with q1 | ⟨q1, q2⟩
  all_goals
    go_enter Try.func77, Try.ntmps77
    go_wp2_with fail
    refine (unhide L1 _).mono ?_
    rintro e W1 ⟨rfl, hb⟩
    have k1_0 := keep1 hb (b := w.heap.size) (o := 0) (v := .int .i64 a1) (by simp (maxDischargeDepth := 12) [go_sem, le1, lt1, *])
    have k1_1 := keep1 hb (b := w.heap.size) (o := 1) (v := .int .i64 a2) (by simp (maxDischargeDepth := 12) [go_sem, le1, lt1, *])
    have k1_2 := keep1 hb (b := w.heap.size + 1) (o := 0) (v := .int .i64 b1) (by simp (maxDischargeDepth := 12) [go_sem, le1, lt1, *])
    have k1_3 := keep1 hb (b := w.heap.size + 1) (o := 1) (v := .int .i64 b2) (by simp (maxDischargeDepth := 12) [go_sem, le1, lt1, *])
    have k1_4 := keep1 hb (b := w.heap.size + 1 + 1) (o := 0) (v := .int .i64 c1) (by simp (maxDischargeDepth := 12) [go_sem, le1, lt1, *])
    have k1_5 := keep1 hb (b := w.heap.size + 1 + 1) (o := 1) (v := .int .i64 c2) (by simp (maxDischargeDepth := 12) [go_sem, le1, lt1, *])
    have k1_6 := keep1 hb (b := w.heap.size + 1 + 1 + 1) (o := 0) (v := .int .i64 d1) (by simp (maxDischargeDepth := 12) [go_sem, le1, lt1, *])
    have k1_7 := keep1 hb (b := w.heap.size + 1 + 1 + 1) (o := 1) (v := .int .i64 d2) (by simp (maxDischargeDepth := 12) [go_sem, le1, lt1, *])
    have HB1 := hide hb
    clear hb
    have lak1_0 := cell_lt k1_0
    have lbk1_0 := Nat.le_of_lt lak1_0
    have lck1_0 := lt1 (k := 1) lak1_0
    have ldk1_0 := lt1 (k := 1) lck1_0
    have lek1_0 := lt1 (k := 1) ldk1_0
    have lnk1_0 := Nat.ne_of_lt lak1_0
    have lmk1_0 := (Nat.ne_of_lt lak1_0).symm
    have lak1_2 := cell_lt k1_2
    have lbk1_2 := Nat.le_of_lt lak1_2
    have lck1_2 := lt1 (k := 1) lak1_2
    have ldk1_2 := lt1 (k := 1) lck1_2
    have lek1_2 := lt1 (k := 1) ldk1_2
    have lnk1_2 := Nat.ne_of_lt lak1_2
    have lmk1_2 := (Nat.ne_of_lt lak1_2).symm
    have lak1_4 := cell_lt k1_4
    have lbk1_4 := Nat.le_of_lt lak1_4
    have lck1_4 := lt1 (k := 1) lak1_4
    have ldk1_4 := lt1 (k := 1) lck1_4
    have lek1_4 := lt1 (k := 1) ldk1_4
    have lnk1_4 := Nat.ne_of_lt lak1_4
    have lmk1_4 := (Nat.ne_of_lt lak1_4).symm
    have lak1_6 := cell_lt k1_6
    have lbk1_6 := Nat.le_of_lt lak1_6
    have lck1_6 := lt1 (k := 1) lak1_6
    have ldk1_6 := lt1 (k := 1) lck1_6
    have lek1_6 := lt1 (k := 1) ldk1_6
    have lnk1_6 := Nat.ne_of_lt lak1_6
    have lmk1_6 := (Nat.ne_of_lt lak1_6).symm
    go_wp2_with fail
    refine (unhide L2 _).mono ?_
    rintro e W2 ⟨rfl, hb⟩
    have k2_0 := keep1 hb (b := w.heap.size) (o := 0) (v := .int .i64 a1) (by simp (maxDischargeDepth := 12) [go_sem, le1, lt1, *])
    have k2_1 := keep1 hb (b := w.heap.size) (o := 1) (v := .int .i64 a2) (by simp (maxDischargeDepth := 12) [go_sem, le1, lt1, *])
    have k2_2 := keep1 hb (b := w.heap.size + 1) (o := 0) (v := .int .i64 b1) (by simp (maxDischargeDepth := 12) [go_sem, le1, lt1, *])
    have k2_3 := keep1 hb (b := w.heap.size + 1) (o := 1) (v := .int .i64 b2) (by simp (maxDischargeDepth := 12) [go_sem, le1, lt1, *])
    have k2_4 := keep1 hb (b := w.heap.size + 1 + 1) (o := 0) (v := .int .i64 c1) (by simp (maxDischargeDepth := 12) [go_sem, le1, lt1, *])
    have k2_5 := keep1 hb (b := w.heap.size + 1 + 1) (o := 1) (v := .int .i64 c2) (by simp (maxDischargeDepth := 12) [go_sem, le1, lt1, *])
    have k2_6 := keep1 hb (b := w.heap.size + 1 + 1 + 1) (o := 0) (v := .int .i64 d1) (by simp (maxDischargeDepth := 12) [go_sem, le1, lt1, *])
    have k2_7 := keep1 hb (b := w.heap.size + 1 + 1 + 1) (o := 1) (v := .int .i64 d2) (by simp (maxDischargeDepth := 12) [go_sem, le1, lt1, *])
    have HB2 := hide hb
    clear hb
    clear k1_0 k1_1 k1_2 k1_3 k1_4 k1_5 k1_6 k1_7 lak1_0 lbk1_0 lck1_0 ldk1_0 lek1_0 lak1_2 lbk1_2 lck1_2 ldk1_2 lek1_2 lak1_4 lbk1_4 lck1_4 ldk1_4 lek1_4 lak1_6 lbk1_6 lck1_6 ldk1_6 lek1_6
    have lak2_0 := cell_lt k2_0
    have lbk2_0 := Nat.le_of_lt lak2_0
    have lck2_0 := lt1 (k := 1) lak2_0
    have ldk2_0 := lt1 (k := 1) lck2_0
    have lek2_0 := lt1 (k := 1) ldk2_0
    have lnk2_0 := Nat.ne_of_lt lak2_0
    have lmk2_0 := (Nat.ne_of_lt lak2_0).symm
    have lak2_2 := cell_lt k2_2
    have lbk2_2 := Nat.le_of_lt lak2_2
    have lck2_2 := lt1 (k := 1) lak2_2
    have ldk2_2 := lt1 (k := 1) lck2_2
    have lek2_2 := lt1 (k := 1) ldk2_2
    have lnk2_2 := Nat.ne_of_lt lak2_2
    have lmk2_2 := (Nat.ne_of_lt lak2_2).symm
    have lak2_4 := cell_lt k2_4
    have lbk2_4 := Nat.le_of_lt lak2_4
    have lck2_4 := lt1 (k := 1) lak2_4
    have ldk2_4 := lt1 (k := 1) lck2_4
    have lek2_4 := lt1 (k := 1) ldk2_4
    have lnk2_4 := Nat.ne_of_lt lak2_4
    have lmk2_4 := (Nat.ne_of_lt lak2_4).symm
    have lak2_6 := cell_lt k2_6
    have lbk2_6 := Nat.le_of_lt lak2_6
    have lck2_6 := lt1 (k := 1) lak2_6
    have ldk2_6 := lt1 (k := 1) lck2_6
    have lek2_6 := lt1 (k := 1) ldk2_6
    have lnk2_6 := Nat.ne_of_lt lak2_6
    have lmk2_6 := (Nat.ne_of_lt lak2_6).symm
    go_wp2_with fail
    refine (unhide L3 _).mono ?_
    rintro e W3 ⟨rfl, hb⟩
    have k3_0 := keep1 hb (b := w.heap.size) (o := 0) (v := .int .i64 a1) (by simp (maxDischargeDepth := 12) [go_sem, le1, lt1, *])
    have k3_1 := keep1 hb (b := w.heap.size) (o := 1) (v := .int .i64 a2) (by simp (maxDischargeDepth := 12) [go_sem, le1, lt1, *])
    have k3_2 := keep1 hb (b := w.heap.size + 1) (o := 0) (v := .int .i64 b1) (by simp (maxDischargeDepth := 12) [go_sem, le1, lt1, *])
    have k3_3 := keep1 hb (b := w.heap.size + 1) (o := 1) (v := .int .i64 b2) (by simp (maxDischargeDepth := 12) [go_sem, le1, lt1, *])
    have k3_4 := keep1 hb (b := w.heap.size + 1 + 1) (o := 0) (v := .int .i64 c1) (by simp (maxDischargeDepth := 12) [go_sem, le1, lt1, *])
    have k3_5 := keep1 hb (b := w.heap.size + 1 + 1) (o := 1) (v := .int .i64 c2) (by simp (maxDischargeDepth := 12) [go_sem, le1, lt1, *])
    have k3_6 := keep1 hb (b := w.heap.size + 1 + 1 + 1) (o := 0) (v := .int .i64 d1) (by simp (maxDischargeDepth := 12) [go_sem, le1, lt1, *])
    have k3_7 := keep1 hb (b := w.heap.size + 1 + 1 + 1) (o := 1) (v := .int .i64 d2) (by simp (maxDischargeDepth := 12) [go_sem, le1, lt1, *])
    have k3_8 := keep1 hb (b := W2.heap.size) (o := 0) (v := .int .i64 a1) (by simp (maxDischargeDepth := 12) [go_sem, le1, lt1, *])
    have k3_9 := keep1 hb (b := W2.heap.size) (o := 1) (v := .int .i64 a2) (by simp (maxDischargeDepth := 12) [go_sem, le1, lt1, *])
    have z3 := fun o => keepz hb (b := W2.heap.size) (o := o) (by simp) (by simp (maxDischargeDepth := 12) [go_sem, le1, lt1, *])
    have HB3 := hide hb
    clear hb
    clear k2_0 k2_1 k2_2 k2_3 k2_4 k2_5 k2_6 k2_7 lak2_0 lbk2_0 lck2_0 ldk2_0 lek2_0 lak2_2 lbk2_2 lck2_2 ldk2_2 lek2_2 lak2_4 lbk2_4 lck2_4 ldk2_4 lek2_4 lak2_6 lbk2_6 lck2_6 ldk2_6 lek2_6
    have lak3_0 := cell_lt k3_0
    have lbk3_0 := Nat.le_of_lt lak3_0
    have lck3_0 := lt1 (k := 1) lak3_0
    have ldk3_0 := lt1 (k := 1) lck3_0
    have lek3_0 := lt1 (k := 1) ldk3_0
    have lnk3_0 := Nat.ne_of_lt lak3_0
    have lmk3_0 := (Nat.ne_of_lt lak3_0).symm
    have lak3_2 := cell_lt k3_2
    have lbk3_2 := Nat.le_of_lt lak3_2
    have lck3_2 := lt1 (k := 1) lak3_2
    have ldk3_2 := lt1 (k := 1) lck3_2
    have lek3_2 := lt1 (k := 1) ldk3_2
    have lnk3_2 := Nat.ne_of_lt lak3_2
    have lmk3_2 := (Nat.ne_of_lt lak3_2).symm
    have lak3_4 := cell_lt k3_4
    have lbk3_4 := Nat.le_of_lt lak3_4
    have lck3_4 := lt1 (k := 1) lak3_4
    have ldk3_4 := lt1 (k := 1) lck3_4
    have lek3_4 := lt1 (k := 1) ldk3_4
    have lnk3_4 := Nat.ne_of_lt lak3_4
    have lmk3_4 := (Nat.ne_of_lt lak3_4).symm
    have lak3_6 := cell_lt k3_6
    have lbk3_6 := Nat.le_of_lt lak3_6
    have lck3_6 := lt1 (k := 1) lak3_6
    have ldk3_6 := lt1 (k := 1) lck3_6
    have lek3_6 := lt1 (k := 1) ldk3_6
    have lnk3_6 := Nat.ne_of_lt lak3_6
    have lmk3_6 := (Nat.ne_of_lt lak3_6).symm
    have lak3_8 := cell_lt k3_8
    have lbk3_8 := Nat.le_of_lt lak3_8
    have lck3_8 := lt1 (k := 1) lak3_8
    have ldk3_8 := lt1 (k := 1) lck3_8
    have lek3_8 := lt1 (k := 1) ldk3_8
    have lnk3_8 := Nat.ne_of_lt lak3_8
    have lmk3_8 := (Nat.ne_of_lt lak3_8).symm
    go_wp2_with fail
    refine (unhide L4 _).mono ?_
    rintro e W4 ⟨rfl, hb⟩
    have k4_0 := keep1 hb (b := w.heap.size) (o := 0) (v := .int .i64 a1) (by simp (maxDischargeDepth := 12) [go_sem, le1, lt1, *])
    have k4_1 := keep1 hb (b := w.heap.size) (o := 1) (v := .int .i64 a2) (by simp (maxDischargeDepth := 12) [go_sem, le1, lt1, *])
    have k4_2 := keep1 hb (b := w.heap.size + 1) (o := 0) (v := .int .i64 b1) (by simp (maxDischargeDepth := 12) [go_sem, le1, lt1, *])
    have k4_3 := keep1 hb (b := w.heap.size + 1) (o := 1) (v := .int .i64 b2) (by simp (maxDischargeDepth := 12) [go_sem, le1, lt1, *])
    have k4_4 := keep1 hb (b := w.heap.size + 1 + 1) (o := 0) (v := .int .i64 c1) (by simp (maxDischargeDepth := 12) [go_sem, le1, lt1, *])
    have k4_5 := keep1 hb (b := w.heap.size + 1 + 1) (o := 1) (v := .int .i64 c2) (by simp (maxDischargeDepth := 12) [go_sem, le1, lt1, *])
    have k4_6 := keep1 hb (b := w.heap.size + 1 + 1 + 1) (o := 0) (v := .int .i64 d1) (by simp (maxDischargeDepth := 12) [go_sem, le1, lt1, *])
    have k4_7 := keep1 hb (b := w.heap.size + 1 + 1 + 1) (o := 1) (v := .int .i64 d2) (by simp (maxDischargeDepth := 12) [go_sem, le1, lt1, *])
    have k4_8 := keep1 hb (b := W2.heap.size) (o := 0) (v := .int .i64 c1) (by simp (maxDischargeDepth := 12) [go_sem, le1, lt1, *])
    have k4_9 := keep1 hb (b := W2.heap.size) (o := 1) (v := .int .i64 c2) (by simp (maxDischargeDepth := 12) [go_sem, le1, lt1, *])
    have k4_10 := keep1 hb (b := W3.heap.size) (o := 0) (v := .int .i64 b1) (by simp (maxDischargeDepth := 12) [go_sem, le1, lt1, *])
    have k4_11 := keep1 hb (b := W3.heap.size) (o := 1) (v := .int .i64 b2) (by simp (maxDischargeDepth := 12) [go_sem, le1, lt1, *])
    have z4 := fun o => keepz hb (b := W3.heap.size) (o := o) (by simp) (by simp (maxDischargeDepth := 12) [go_sem, le1, lt1, *])
    have HB4 := hide hb
    clear hb
    clear k3_0 k3_1 k3_2 k3_3 k3_4 k3_5 k3_6 k3_7 k3_8 k3_9 lak3_0 lbk3_0 lck3_0 ldk3_0 lek3_0 lak3_2 lbk3_2 lck3_2 ldk3_2 lek3_2 lak3_4 lbk3_4 lck3_4 ldk3_4 lek3_4 lak3_6 lbk3_6 lck3_6 ldk3_6 lek3_6 lak3_8 lbk3_8 lck3_8 ldk3_8 lek3_8
    have lak4_0 := cell_lt k4_0
    have lbk4_0 := Nat.le_of_lt lak4_0
    have lck4_0 := lt1 (k := 1) lak4_0
    have ldk4_0 := lt1 (k := 1) lck4_0
    have lek4_0 := lt1 (k := 1) ldk4_0
    have lnk4_0 := Nat.ne_of_lt lak4_0
    have lmk4_0 := (Nat.ne_of_lt lak4_0).symm
    have lak4_2 := cell_lt k4_2
    have lbk4_2 := Nat.le_of_lt lak4_2
    have lck4_2 := lt1 (k := 1) lak4_2
    have ldk4_2 := lt1 (k := 1) lck4_2
    have lek4_2 := lt1 (k := 1) ldk4_2
    have lnk4_2 := Nat.ne_of_lt lak4_2
    have lmk4_2 := (Nat.ne_of_lt lak4_2).symm
    have lak4_4 := cell_lt k4_4
    have lbk4_4 := Nat.le_of_lt lak4_4
    have lck4_4 := lt1 (k := 1) lak4_4
    have ldk4_4 := lt1 (k := 1) lck4_4
    have lek4_4 := lt1 (k := 1) ldk4_4
    have lnk4_4 := Nat.ne_of_lt lak4_4
    have lmk4_4 := (Nat.ne_of_lt lak4_4).symm
    have lak4_6 := cell_lt k4_6
    have lbk4_6 := Nat.le_of_lt lak4_6
    have lck4_6 := lt1 (k := 1) lak4_6
    have ldk4_6 := lt1 (k := 1) lck4_6
    have lek4_6 := lt1 (k := 1) ldk4_6
    have lnk4_6 := Nat.ne_of_lt lak4_6
    have lmk4_6 := (Nat.ne_of_lt lak4_6).symm
    have lak4_8 := cell_lt k4_8
    have lbk4_8 := Nat.le_of_lt lak4_8
    have lck4_8 := lt1 (k := 1) lak4_8
    have ldk4_8 := lt1 (k := 1) lck4_8
    have lek4_8 := lt1 (k := 1) ldk4_8
    have lnk4_8 := Nat.ne_of_lt lak4_8
    have lmk4_8 := (Nat.ne_of_lt lak4_8).symm
    have lak4_10 := cell_lt k4_10
    have lbk4_10 := Nat.le_of_lt lak4_10
    have lck4_10 := lt1 (k := 1) lak4_10
    have ldk4_10 := lt1 (k := 1) lck4_10
    have lek4_10 := lt1 (k := 1) ldk4_10
    have lnk4_10 := Nat.ne_of_lt lak4_10
    have lmk4_10 := (Nat.ne_of_lt lak4_10).symm
    have E4 : Hid (Below w.heap.size w W4) := by
      refine hide (bc ?_ (unhide HB4))
      refine ba ?_ _
      refine Below.setCell (Below.setCell ?_ (le_bel (bc (ba (ba (ba (ba (Below.refl w.heap.size w) _) _) _) _) (unhide HB1)) (unhide HB2)) _) (le_bel (bc (ba (ba (ba (ba (Below.refl w.heap.size w) _) _) _) _) (unhide HB1)) (unhide HB2)) _
      refine bc ?_ (unhide HB3)
      refine ba ?_ _
      refine bc ?_ (unhide HB2)
      refine bc ?_ (unhide HB1)
      exact ba (ba (ba (ba (Below.refl _ _) _) _) _) _
    have le4 : w.heap.size ≤ W3.heap.size := by
      have := (unhide HB1).size
      have := (unhide HB2).size
      have := (unhide HB3).size
      simp at *
      omega
    clear HB1 HB2 HB3 HB4 z3
    go_wp2_with fail
    refine (unhide L5 _).mono ?_
    rintro e W5 ⟨rfl, hb⟩
    have HB5 := hide hb
    clear hb
    clear k4_0 k4_1 k4_2 k4_3 k4_4 k4_5 k4_6 k4_7 k4_8 k4_9 k4_10 k4_11 lak4_0 lbk4_0 lck4_0 ldk4_0 lek4_0 lak4_2 lbk4_2 lck4_2 ldk4_2 lek4_2 lak4_4 lbk4_4 lck4_4 ldk4_4 lek4_4 lak4_6 lbk4_6 lck4_6 ldk4_6 lek4_6 lak4_8 lbk4_8 lck4_8 ldk4_8 lek4_8 lak4_10 lbk4_10 lck4_10 ldk4_10 lek4_10
    have E6 := hide (bc (unhide E4) (unhide HB5))
    clear E4 HB5
    go_wp2_with fail
    go_ret
    exact ⟨⟨_, rfl, (unhide E6).size, blk_new _ _⟩, ba (unhide E6) _⟩

set_option maxRecDepth 100000 in
set_option maxHeartbeats 2000000 in
theorem alongM_gt_cd (a1 a2 b1 b2 c1 c2 d1 d2 : Int) (w : World)
    (L1 : Hid (∀ W, Calls Try.prog 91 #[.agg #[.int .i64 b1, .int .i64 b2], .agg #[.int .i64 a1, .int .i64 a2]] W fun e w' => e = .returned (.bool false) ∧ Below W.heap.size W w'))
    (L2 : Hid (∀ W, Calls Try.prog 91 #[.agg #[.int .i64 d1, .int .i64 d2], .agg #[.int .i64 c1, .int .i64 c2]] W fun e w' => e = .returned (.bool false) ∧ Below W.heap.size W w'))
    (L3 : Hid (∀ W, Calls Try.prog 91 #[.agg #[.int .i64 a1, .int .i64 a2], .agg #[.int .i64 c1, .int .i64 c2]] W fun e w' => e = .returned (.bool true) ∧ Below W.heap.size W w'))
    (L4 : Hid (∀ W, Calls Try.prog 91 #[.agg #[.int .i64 d1, .int .i64 d2], .agg #[.int .i64 b1, .int .i64 b2]] W fun e w' => e = .returned (.bool true) ∧ Below W.heap.size W w'))
    (qq : (c1 == d1) = false ∨ (c1 == d1) = true ∧ (c2 == d2) = false)
    (L5 : Hid (∀ W, Calls Try.prog 91 #[.agg #[.int .i64 c1, .int .i64 c2], .agg #[.int .i64 d1, .int .i64 d2]] W fun e w' => e = .returned (.bool false) ∧ Below W.heap.size W w')) :
    Calls Try.prog 77 #[.agg #[.int .i64 a1, .int .i64 a2], .agg #[.int .i64 b1, .int .i64 b2], .agg #[.int .i64 c1, .int .i64 c2], .agg #[.int .i64 d1, .int .i64 d2]] w fun e w' => (∃ k, e = .returned (.slice (some ⟨k, 0, none⟩) 0 0) ∧ w.heap.size ≤ k ∧ w'.heap[k]? = some (.cells #[] 93 (0, 0))) ∧ Below w.heap.size w w' := by
  rcases qq with q1 | ⟨q1, q2⟩
  all_goals
    go_enter Try.func77, Try.ntmps77
    go_wp2_with fail
    refine (unhide L1 _).mono ?_
    rintro e W1 ⟨rfl, hb⟩
    have k1_0 := keep1 hb (b := w.heap.size) (o := 0) (v := .int .i64 a1) (by simp (maxDischargeDepth := 12) [go_sem, le1, lt1, *])
    have k1_1 := keep1 hb (b := w.heap.size) (o := 1) (v := .int .i64 a2) (by simp (maxDischargeDepth := 12) [go_sem, le1, lt1, *])
    have k1_2 := keep1 hb (b := w.heap.size + 1) (o := 0) (v := .int .i64 b1) (by simp (maxDischargeDepth := 12) [go_sem, le1, lt1, *])
    have k1_3 := keep1 hb (b := w.heap.size + 1) (o := 1) (v := .int .i64 b2) (by simp (maxDischargeDepth := 12) [go_sem, le1, lt1, *])
    have k1_4 := keep1 hb (b := w.heap.size + 1 + 1) (o := 0) (v := .int .i64 c1) (by simp (maxDischargeDepth := 12) [go_sem, le1, lt1, *])
    have k1_5 := keep1 hb (b := w.heap.size + 1 + 1) (o := 1) (v := .int .i64 c2) (by simp (maxDischargeDepth := 12) [go_sem, le1, lt1, *])
    have k1_6 := keep1 hb (b := w.heap.size + 1 + 1 + 1) (o := 0) (v := .int .i64 d1) (by simp (maxDischargeDepth := 12) [go_sem, le1, lt1, *])
    have k1_7 := keep1 hb (b := w.heap.size + 1 + 1 + 1) (o := 1) (v := .int .i64 d2) (by simp (maxDischargeDepth := 12) [go_sem, le1, lt1, *])
    have HB1 := hide hb
    clear hb
    have lak1_0 := cell_lt k1_0
    have lbk1_0 := Nat.le_of_lt lak1_0
    have lck1_0 := lt1 (k := 1) lak1_0
    have ldk1_0 := lt1 (k := 1) lck1_0
    have lek1_0 := lt1 (k := 1) ldk1_0
    have lnk1_0 := Nat.ne_of_lt lak1_0
    have lmk1_0 := (Nat.ne_of_lt lak1_0).symm
    have lak1_2 := cell_lt k1_2
    have lbk1_2 := Nat.le_of_lt lak1_2
    have lck1_2 := lt1 (k := 1) lak1_2
    have ldk1_2 := lt1 (k := 1) lck1_2
    have lek1_2 := lt1 (k := 1) ldk1_2
    have lnk1_2 := Nat.ne_of_lt lak1_2
    have lmk1_2 := (Nat.ne_of_lt lak1_2).symm
    have lak1_4 := cell_lt k1_4
    have lbk1_4 := Nat.le_of_lt lak1_4
    have lck1_4 := lt1 (k := 1) lak1_4
    have ldk1_4 := lt1 (k := 1) lck1_4
    have lek1_4 := lt1 (k := 1) ldk1_4
    have lnk1_4 := Nat.ne_of_lt lak1_4
    have lmk1_4 := (Nat.ne_of_lt lak1_4).symm
    have lak1_6 := cell_lt k1_6
    have lbk1_6 := Nat.le_of_lt lak1_6
    have lck1_6 := lt1 (k := 1) lak1_6
    have ldk1_6 := lt1 (k := 1) lck1_6
    have lek1_6 := lt1 (k := 1) ldk1_6
    have lnk1_6 := Nat.ne_of_lt lak1_6
    have lmk1_6 := (Nat.ne_of_lt lak1_6).symm
    go_wp2_with fail
    refine (unhide L2 _).mono ?_
    rintro e W2 ⟨rfl, hb⟩
    have k2_0 := keep1 hb (b := w.heap.size) (o := 0) (v := .int .i64 a1) (by simp (maxDischargeDepth := 12) [go_sem, le1, lt1, *])
    have k2_1 := keep1 hb (b := w.heap.size) (o := 1) (v := .int .i64 a2) (by simp (maxDischargeDepth := 12) [go_sem, le1, lt1, *])
    have k2_2 := keep1 hb (b := w.heap.size + 1) (o := 0) (v := .int .i64 b1) (by simp (maxDischargeDepth := 12) [go_sem, le1, lt1, *])
    have k2_3 := keep1 hb (b := w.heap.size + 1) (o := 1) (v := .int .i64 b2) (by simp (maxDischargeDepth := 12) [go_sem, le1, lt1, *])
    have k2_4 := keep1 hb (b := w.heap.size + 1 + 1) (o := 0) (v := .int .i64 c1) (by simp (maxDischargeDepth := 12) [go_sem, le1, lt1, *])
    have k2_5 := keep1 hb (b := w.heap.size + 1 + 1) (o := 1) (v := .int .i64 c2) (by simp (maxDischargeDepth := 12) [go_sem, le1, lt1, *])
    have k2_6 := keep1 hb (b := w.heap.size + 1 + 1 + 1) (o := 0) (v := .int .i64 d1) (by simp (maxDischargeDepth := 12) [go_sem, le1, lt1, *])
    have k2_7 := keep1 hb (b := w.heap.size + 1 + 1 + 1) (o := 1) (v := .int .i64 d2) (by simp (maxDischargeDepth := 12) [go_sem, le1, lt1, *])
    have HB2 := hide hb
    clear hb
    clear k1_0 k1_1 k1_2 k1_3 k1_4 k1_5 k1_6 k1_7 lak1_0 lbk1_0 lck1_0 ldk1_0 lek1_0 lak1_2 lbk1_2 lck1_2 ldk1_2 lek1_2 lak1_4 lbk1_4 lck1_4 ldk1_4 lek1_4 lak1_6 lbk1_6 lck1_6 ldk1_6 lek1_6
    have lak2_0 := cell_lt k2_0
    have lbk2_0 := Nat.le_of_lt lak2_0
    have lck2_0 := lt1 (k := 1) lak2_0
    have ldk2_0 := lt1 (k := 1) lck2_0
    have lek2_0 := lt1 (k := 1) ldk2_0
    have lnk2_0 := Nat.ne_of_lt lak2_0
    have lmk2_0 := (Nat.ne_of_lt lak2_0).symm
    have lak2_2 := cell_lt k2_2
    have lbk2_2 := Nat.le_of_lt lak2_2
    have lck2_2 := lt1 (k := 1) lak2_2
    have ldk2_2 := lt1 (k := 1) lck2_2
    have lek2_2 := lt1 (k := 1) ldk2_2
    have lnk2_2 := Nat.ne_of_lt lak2_2
    have lmk2_2 := (Nat.ne_of_lt lak2_2).symm
    have lak2_4 := cell_lt k2_4
    have lbk2_4 := Nat.le_of_lt lak2_4
    have lck2_4 := lt1 (k := 1) lak2_4
    have ldk2_4 := lt1 (k := 1) lck2_4
    have lek2_4 := lt1 (k := 1) ldk2_4
    have lnk2_4 := Nat.ne_of_lt lak2_4
    have lmk2_4 := (Nat.ne_of_lt lak2_4).symm
    have lak2_6 := cell_lt k2_6
    have lbk2_6 := Nat.le_of_lt lak2_6
    have lck2_6 := lt1 (k := 1) lak2_6
    have ldk2_6 := lt1 (k := 1) lck2_6
    have lek2_6 := lt1 (k := 1) ldk2_6
    have lnk2_6 := Nat.ne_of_lt lak2_6
    have lmk2_6 := (Nat.ne_of_lt lak2_6).symm
    go_wp2_with fail
    refine (unhide L3 _).mono ?_
    rintro e W3 ⟨rfl, hb⟩
    have k3_0 := keep1 hb (b := w.heap.size) (o := 0) (v := .int .i64 a1) (by simp (maxDischargeDepth := 12) [go_sem, le1, lt1, *])
    have k3_1 := keep1 hb (b := w.heap.size) (o := 1) (v := .int .i64 a2) (by simp (maxDischargeDepth := 12) [go_sem, le1, lt1, *])
    have k3_2 := keep1 hb (b := w.heap.size + 1) (o := 0) (v := .int .i64 b1) (by simp (maxDischargeDepth := 12) [go_sem, le1, lt1, *])
    have k3_3 := keep1 hb (b := w.heap.size + 1) (o := 1) (v := .int .i64 b2) (by simp (maxDischargeDepth := 12) [go_sem, le1, lt1, *])
    have k3_4 := keep1 hb (b := w.heap.size + 1 + 1) (o := 0) (v := .int .i64 c1) (by simp (maxDischargeDepth := 12) [go_sem, le1, lt1, *])
    have k3_5 := keep1 hb (b := w.heap.size + 1 + 1) (o := 1) (v := .int .i64 c2) (by simp (maxDischargeDepth := 12) [go_sem, le1, lt1, *])
    have k3_6 := keep1 hb (b := w.heap.size + 1 + 1 + 1) (o := 0) (v := .int .i64 d1) (by simp (maxDischargeDepth := 12) [go_sem, le1, lt1, *])
    have k3_7 := keep1 hb (b := w.heap.size + 1 + 1 + 1) (o := 1) (v := .int .i64 d2) (by simp (maxDischargeDepth := 12) [go_sem, le1, lt1, *])
    have k3_8 := keep1 hb (b := W2.heap.size) (o := 0) (v := .int .i64 a1) (by simp (maxDischargeDepth := 12) [go_sem, le1, lt1, *])
    have k3_9 := keep1 hb (b := W2.heap.size) (o := 1) (v := .int .i64 a2) (by simp (maxDischargeDepth := 12) [go_sem, le1, lt1, *])
    have z3 := fun o => keepz hb (b := W2.heap.size) (o := o) (by simp) (by simp (maxDischargeDepth := 12) [go_sem, le1, lt1, *])
    have HB3 := hide hb
    clear hb
    clear k2_0 k2_1 k2_2 k2_3 k2_4 k2_5 k2_6 k2_7 lak2_0 lbk2_0 lck2_0 ldk2_0 lek2_0 lak2_2 lbk2_2 lck2_2 ldk2_2 lek2_2 lak2_4 lbk2_4 lck2_4 ldk2_4 lek2_4 lak2_6 lbk2_6 lck2_6 ldk2_6 lek2_6
    have lak3_0 := cell_lt k3_0
    have lbk3_0 := Nat.le_of_lt lak3_0
    have lck3_0 := lt1 (k := 1) lak3_0
    have ldk3_0 := lt1 (k := 1) lck3_0
    have lek3_0 := lt1 (k := 1) ldk3_0
    have lnk3_0 := Nat.ne_of_lt lak3_0
    have lmk3_0 := (Nat.ne_of_lt lak3_0).symm
    have lak3_2 := cell_lt k3_2
    have lbk3_2 := Nat.le_of_lt lak3_2
    have lck3_2 := lt1 (k := 1) lak3_2
    have ldk3_2 := lt1 (k := 1) lck3_2
    have lek3_2 := lt1 (k := 1) ldk3_2
    have lnk3_2 := Nat.ne_of_lt lak3_2
    have lmk3_2 := (Nat.ne_of_lt lak3_2).symm
    have lak3_4 := cell_lt k3_4
    have lbk3_4 := Nat.le_of_lt lak3_4
    have lck3_4 := lt1 (k := 1) lak3_4
    have ldk3_4 := lt1 (k := 1) lck3_4
    have lek3_4 := lt1 (k := 1) ldk3_4
    have lnk3_4 := Nat.ne_of_lt lak3_4
    have lmk3_4 := (Nat.ne_of_lt lak3_4).symm
    have lak3_6 := cell_lt k3_6
    have lbk3_6 := Nat.le_of_lt lak3_6
    have lck3_6 := lt1 (k := 1) lak3_6
    have ldk3_6 := lt1 (k := 1) lck3_6
    have lek3_6 := lt1 (k := 1) ldk3_6
    have lnk3_6 := Nat.ne_of_lt lak3_6
    have lmk3_6 := (Nat.ne_of_lt lak3_6).symm
    have lak3_8 := cell_lt k3_8
    have lbk3_8 := Nat.le_of_lt lak3_8
    have lck3_8 := lt1 (k := 1) lak3_8
    have ldk3_8 := lt1 (k := 1) lck3_8
    have lek3_8 := lt1 (k := 1) ldk3_8
    have lnk3_8 := Nat.ne_of_lt lak3_8
    have lmk3_8 := (Nat.ne_of_lt lak3_8).symm
    go_wp2_with fail
    refine (unhide L4 _).mono ?_
    rintro e W4 ⟨rfl, hb⟩
    have k4_0 := keep1 hb (b := w.heap.size) (o := 0) (v := .int .i64 a1) (by simp (maxDischargeDepth := 12) [go_sem, le1, lt1, *])
    have k4_1 := keep1 hb (b := w.heap.size) (o := 1) (v := .int .i64 a2) (by simp (maxDischargeDepth := 12) [go_sem, le1, lt1, *])
    have k4_2 := keep1 hb (b := w.heap.size + 1) (o := 0) (v := .int .i64 b1) (by simp (maxDischargeDepth := 12) [go_sem, le1, lt1, *])
    have k4_3 := keep1 hb (b := w.heap.size + 1) (o := 1) (v := .int .i64 b2) (by simp (maxDischargeDepth := 12) [go_sem, le1, lt1, *])
    have k4_4 := keep1 hb (b := w.heap.size + 1 + 1) (o := 0) (v := .int .i64 c1) (by simp (maxDischargeDepth := 12) [go_sem, le1, lt1, *])
    have k4_5 := keep1 hb (b := w.heap.size + 1 + 1) (o := 1) (v := .int .i64 c2) (by simp (maxDischargeDepth := 12) [go_sem, le1, lt1, *])
    have k4_6 := keep1 hb (b := w.heap.size + 1 + 1 + 1) (o := 0) (v := .int .i64 d1) (by simp (maxDischargeDepth := 12) [go_sem, le1, lt1, *])
    have k4_7 := keep1 hb (b := w.heap.size + 1 + 1 + 1) (o := 1) (v := .int .i64 d2) (by simp (maxDischargeDepth := 12) [go_sem, le1, lt1, *])
    have k4_8 := keep1 hb (b := W2.heap.size) (o := 0) (v := .int .i64 c1) (by simp (maxDischargeDepth := 12) [go_sem, le1, lt1, *])
    have k4_9 := keep1 hb (b := W2.heap.size) (o := 1) (v := .int .i64 c2) (by simp (maxDischargeDepth := 12) [go_sem, le1, lt1, *])
    have k4_10 := keep1 hb (b := W3.heap.size) (o := 0) (v := .int .i64 b1) (by simp (maxDischargeDepth := 12) [go_sem, le1, lt1, *])
    have k4_11 := keep1 hb (b := W3.heap.size) (o := 1) (v := .int .i64 b2) (by simp (maxDischargeDepth := 12) [go_sem, le1, lt1, *])
    have z4 := fun o => keepz hb (b := W3.heap.size) (o := o) (by simp) (by simp (maxDischargeDepth := 12) [go_sem, le1, lt1, *])
    have HB4 := hide hb
    clear hb
    clear k3_0 k3_1 k3_2 k3_3 k3_4 k3_5 k3_6 k3_7 k3_8 k3_9 lak3_0 lbk3_0 lck3_0 ldk3_0 lek3_0 lak3_2 lbk3_2 lck3_2 ldk3_2 lek3_2 lak3_4 lbk3_4 lck3_4 ldk3_4 lek3_4 lak3_6 lbk3_6 lck3_6 ldk3_6 lek3_6 lak3_8 lbk3_8 lck3_8 ldk3_8 lek3_8
    have lak4_0 := cell_lt k4_0
    have lbk4_0 := Nat.le_of_lt lak4_0
    have lck4_0 := lt1 (k := 1) lak4_0
    have ldk4_0 := lt1 (k := 1) lck4_0
    have lek4_0 := lt1 (k := 1) ldk4_0
    have lnk4_0 := Nat.ne_of_lt lak4_0
    have lmk4_0 := (Nat.ne_of_lt lak4_0).symm
    have lak4_2 := cell_lt k4_2
    have lbk4_2 := Nat.le_of_lt lak4_2
    have lck4_2 := lt1 (k := 1) lak4_2
    have ldk4_2 := lt1 (k := 1) lck4_2
    have lek4_2 := lt1 (k := 1) ldk4_2
    have lnk4_2 := Nat.ne_of_lt lak4_2
    have lmk4_2 := (Nat.ne_of_lt lak4_2).symm
    have lak4_4 := cell_lt k4_4
    have lbk4_4 := Nat.le_of_lt lak4_4
    have lck4_4 := lt1 (k := 1) lak4_4
    have ldk4_4 := lt1 (k := 1) lck4_4
    have lek4_4 := lt1 (k := 1) ldk4_4
    have lnk4_4 := Nat.ne_of_lt lak4_4
    have lmk4_4 := (Nat.ne_of_lt lak4_4).symm
    have lak4_6 := cell_lt k4_6
    have lbk4_6 := Nat.le_of_lt lak4_6
    have lck4_6 := lt1 (k := 1) lak4_6
    have ldk4_6 := lt1 (k := 1) lck4_6
    have lek4_6 := lt1 (k := 1) ldk4_6
    have lnk4_6 := Nat.ne_of_lt lak4_6
    have lmk4_6 := (Nat.ne_of_lt lak4_6).symm
    have lak4_8 := cell_lt k4_8
    have lbk4_8 := Nat.le_of_lt lak4_8
    have lck4_8 := lt1 (k := 1) lak4_8
    have ldk4_8 := lt1 (k := 1) lck4_8
    have lek4_8 := lt1 (k := 1) ldk4_8
    have lnk4_8 := Nat.ne_of_lt lak4_8
    have lmk4_8 := (Nat.ne_of_lt lak4_8).symm
    have lak4_10 := cell_lt k4_10
    have lbk4_10 := Nat.le_of_lt lak4_10
    have lck4_10 := lt1 (k := 1) lak4_10
    have ldk4_10 := lt1 (k := 1) lck4_10
    have lek4_10 := lt1 (k := 1) ldk4_10
    have lnk4_10 := Nat.ne_of_lt lak4_10
    have lmk4_10 := (Nat.ne_of_lt lak4_10).symm
    have E4 : Hid (Below w.heap.size w W4) := by
      refine hide (bc ?_ (unhide HB4))
      refine ba ?_ _
      refine Below.setCell (Below.setCell ?_ (le_bel (bc (ba (ba (ba (ba (Below.refl w.heap.size w) _) _) _) _) (unhide HB1)) (unhide HB2)) _) (le_bel (bc (ba (ba (ba (ba (Below.refl w.heap.size w) _) _) _) _) (unhide HB1)) (unhide HB2)) _
      refine bc ?_ (unhide HB3)
      refine ba ?_ _
      refine bc ?_ (unhide HB2)
      refine bc ?_ (unhide HB1)
      exact ba (ba (ba (ba (Below.refl _ _) _) _) _) _
    have le4 : w.heap.size ≤ W3.heap.size := by
      have := (unhide HB1).size
      have := (unhide HB2).size
      have := (unhide HB3).size
      simp at *
      omega
    clear HB1 HB2 HB3 HB4 z3
    go_wp2_with fail
    refine (unhide L5 _).mono ?_
    rintro e W5 ⟨rfl, hb⟩
    have HB5 := hide hb
    clear hb
    clear k4_0 k4_1 k4_2 k4_3 k4_4 k4_5 k4_6 k4_7 k4_8 k4_9 k4_10 k4_11 lak4_0 lbk4_0 lck4_0 ldk4_0 lek4_0 lak4_2 lbk4_2 lck4_2 ldk4_2 lek4_2 lak4_4 lbk4_4 lck4_4 ldk4_4 lek4_4 lak4_6 lbk4_6 lck4_6 ldk4_6 lek4_6 lak4_8 lbk4_8 lck4_8 ldk4_8 lek4_8 lak4_10 lbk4_10 lck4_10 ldk4_10 lek4_10
    have E6 := hide (bc (Below.setCell (Below.setCell (unhide E4) le4 _) le4 _) (unhide HB5))
    clear E4 HB5
    go_wp2_with fail
    go_ret
    exact ⟨⟨_, rfl, (unhide E6).size, blk_new _ _⟩, ba (unhide E6) _⟩
end Go.Proofs.Ytimkinpbimangaa
