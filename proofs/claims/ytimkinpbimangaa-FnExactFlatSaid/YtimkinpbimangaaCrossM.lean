/-
  What two segments have in common, as the model finds it.
-/
import Derived.Test.YtimkinpbimangaaAlongM
namespace Go.Proofs.Ytimkinpbimangaa
open Go.ChangeShapes Go.WideShapes Go.ChangeAt Go.RowKit
set_option linter.unusedVariables false
set_option linter.unusedSimpArgs false

set_option maxRecDepth 100000 in
set_option maxHeartbeats 4000000 in
theorem crossM_z (a1 a2 b1 b2 c1 c2 d1 d2 s t u v : Int) (w : World)
    (H1 : Hid (∀ W, Calls Try.prog 76 #[.agg #[.int .i64 a1, .int .i64 a2], .agg #[.int .i64 b1, .int .i64 b2], .agg #[.int .i64 c1, .int .i64 c2]] W fun e w' => e = .returned (.int .i64 s) ∧ Below W.heap.size W w'))
    (H2 : Hid (∀ W, Calls Try.prog 76 #[.agg #[.int .i64 a1, .int .i64 a2], .agg #[.int .i64 b1, .int .i64 b2], .agg #[.int .i64 d1, .int .i64 d2]] W fun e w' => e = .returned (.int .i64 t) ∧ Below W.heap.size W w'))
    (H3 : Hid (∀ W, Calls Try.prog 76 #[.agg #[.int .i64 c1, .int .i64 c2], .agg #[.int .i64 d1, .int .i64 d2], .agg #[.int .i64 a1, .int .i64 a2]] W fun e w' => e = .returned (.int .i64 u) ∧ Below W.heap.size W w'))
    (H4 : Hid (∀ W, Calls Try.prog 76 #[.agg #[.int .i64 c1, .int .i64 c2], .agg #[.int .i64 d1, .int .i64 d2], .agg #[.int .i64 b1, .int .i64 b2]] W fun e w' => e = .returned (.int .i64 v) ∧ Below W.heap.size W w'))
    (z1 : (s == 0) = true) (z2 : (t == 0) = true) (z3 : (u == 0) = true) (z4 : (v == 0) = true) (L : List Sp)
    (LC : Hid (∀ W, Calls Try.prog 77 #[.agg #[.int .i64 a1, .int .i64 a2], .agg #[.int .i64 b1, .int .i64 b2], .agg #[.int .i64 c1, .int .i64 c2], .agg #[.int .i64 d1, .int .i64 d2]] W fun e w' => (∃ v, e = .returned v ∧ IsSpots W.heap.size w' v L) ∧ Below W.heap.size W w'))
    :
    Calls Try.prog 61 #[.agg #[.int .i64 a1, .int .i64 a2], .agg #[.int .i64 b1, .int .i64 b2], .agg #[.int .i64 c1, .int .i64 c2], .agg #[.int .i64 d1, .int .i64 d2]] w fun e w' => (∃ v', e = .returned v' ∧ IsSpots w.heap.size w' v' L) ∧ Below w.heap.size w w' := by
  go_enter Try.func61, Try.ntmps61
  go_wp2_with fail
  refine (unhide H1 _).mono ?_
  rintro e W1 ⟨rfl, hb⟩
  have k1_0 := keep1 hb (b := w.heap.size) (o := 0) (v := .int .i64 a1) (by simp (maxDischargeDepth := 12) [go_sem, le1, lt1, *])
  have k1_1 := keep1 hb (b := w.heap.size) (o := 1) (v := .int .i64 a2) (by simp (maxDischargeDepth := 12) [go_sem, le1, lt1, *])
  have k1_2 := keep1 hb (b := w.heap.size + 1) (o := 0) (v := .int .i64 b1) (by simp (maxDischargeDepth := 12) [go_sem, le1, lt1, *])
  have k1_3 := keep1 hb (b := w.heap.size + 1) (o := 1) (v := .int .i64 b2) (by simp (maxDischargeDepth := 12) [go_sem, le1, lt1, *])
  have k1_4 := keep1 hb (b := w.heap.size + 1 + 1) (o := 0) (v := .int .i64 c1) (by simp (maxDischargeDepth := 12) [go_sem, le1, lt1, *])
  have k1_5 := keep1 hb (b := w.heap.size + 1 + 1) (o := 1) (v := .int .i64 c2) (by simp (maxDischargeDepth := 12) [go_sem, le1, lt1, *])
  have k1_6 := keep1 hb (b := w.heap.size + 1 + 1 + 1) (o := 0) (v := .int .i64 d1) (by simp (maxDischargeDepth := 12) [go_sem, le1, lt1, *])
  have k1_7 := keep1 hb (b := w.heap.size + 1 + 1 + 1) (o := 1) (v := .int .i64 d2) (by simp (maxDischargeDepth := 12) [go_sem, le1, lt1, *])
  have HB1 := hide hb
  clear hb
  have lak1_0 := cell_lt k1_0
  have lbk1_0 := Nat.le_of_lt lak1_0
  have lck1_0 := lt1 (k := 1) lak1_0
  have ldk1_0 := lt1 (k := 1) lck1_0
  have lek1_0 := lt1 (k := 1) ldk1_0
  have lak1_2 := cell_lt k1_2
  have lbk1_2 := Nat.le_of_lt lak1_2
  have lck1_2 := lt1 (k := 1) lak1_2
  have ldk1_2 := lt1 (k := 1) lck1_2
  have lek1_2 := lt1 (k := 1) ldk1_2
  have lak1_4 := cell_lt k1_4
  have lbk1_4 := Nat.le_of_lt lak1_4
  have lck1_4 := lt1 (k := 1) lak1_4
  have ldk1_4 := lt1 (k := 1) lck1_4
  have lek1_4 := lt1 (k := 1) ldk1_4
  have lak1_6 := cell_lt k1_6
  have lbk1_6 := Nat.le_of_lt lak1_6
  have lck1_6 := lt1 (k := 1) lak1_6
  have ldk1_6 := lt1 (k := 1) lck1_6
  have lek1_6 := lt1 (k := 1) ldk1_6
  go_wp2_with fail
  refine (unhide H2 _).mono ?_
  rintro e W2 ⟨rfl, hb⟩
  have k2_0 := keep1 hb (b := w.heap.size) (o := 0) (v := .int .i64 a1) (by simp (maxDischargeDepth := 12) [go_sem, le1, lt1, *])
  have k2_1 := keep1 hb (b := w.heap.size) (o := 1) (v := .int .i64 a2) (by simp (maxDischargeDepth := 12) [go_sem, le1, lt1, *])
  have k2_2 := keep1 hb (b := w.heap.size + 1) (o := 0) (v := .int .i64 b1) (by simp (maxDischargeDepth := 12) [go_sem, le1, lt1, *])
  have k2_3 := keep1 hb (b := w.heap.size + 1) (o := 1) (v := .int .i64 b2) (by simp (maxDischargeDepth := 12) [go_sem, le1, lt1, *])
  have k2_4 := keep1 hb (b := w.heap.size + 1 + 1) (o := 0) (v := .int .i64 c1) (by simp (maxDischargeDepth := 12) [go_sem, le1, lt1, *])
  have k2_5 := keep1 hb (b := w.heap.size + 1 + 1) (o := 1) (v := .int .i64 c2) (by simp (maxDischargeDepth := 12) [go_sem, le1, lt1, *])
  have k2_6 := keep1 hb (b := w.heap.size + 1 + 1 + 1) (o := 0) (v := .int .i64 d1) (by simp (maxDischargeDepth := 12) [go_sem, le1, lt1, *])
  have k2_7 := keep1 hb (b := w.heap.size + 1 + 1 + 1) (o := 1) (v := .int .i64 d2) (by simp (maxDischargeDepth := 12) [go_sem, le1, lt1, *])
  have HB2 := hide hb
  clear hb
  clear k1_0 k1_1 k1_2 k1_3 k1_4 k1_5 k1_6 k1_7 lak1_0 lbk1_0 lck1_0 ldk1_0 lek1_0 lak1_2 lbk1_2 lck1_2 ldk1_2 lek1_2 lak1_4 lbk1_4 lck1_4 ldk1_4 lek1_4 lak1_6 lbk1_6 lck1_6 ldk1_6 lek1_6
  have lak2_0 := cell_lt k2_0
  have lbk2_0 := Nat.le_of_lt lak2_0
  have lck2_0 := lt1 (k := 1) lak2_0
  have ldk2_0 := lt1 (k := 1) lck2_0
  have lek2_0 := lt1 (k := 1) ldk2_0
  have lak2_2 := cell_lt k2_2
  have lbk2_2 := Nat.le_of_lt lak2_2
  have lck2_2 := lt1 (k := 1) lak2_2
  have ldk2_2 := lt1 (k := 1) lck2_2
  have lek2_2 := lt1 (k := 1) ldk2_2
  have lak2_4 := cell_lt k2_4
  have lbk2_4 := Nat.le_of_lt lak2_4
  have lck2_4 := lt1 (k := 1) lak2_4
  have ldk2_4 := lt1 (k := 1) lck2_4
  have lek2_4 := lt1 (k := 1) ldk2_4
  have lak2_6 := cell_lt k2_6
  have lbk2_6 := Nat.le_of_lt lak2_6
  have lck2_6 := lt1 (k := 1) lak2_6
  have ldk2_6 := lt1 (k := 1) lck2_6
  have lek2_6 := lt1 (k := 1) ldk2_6
  go_wp2_with fail
  refine (unhide H3 _).mono ?_
  rintro e W3 ⟨rfl, hb⟩
  have k3_0 := keep1 hb (b := w.heap.size) (o := 0) (v := .int .i64 a1) (by simp (maxDischargeDepth := 12) [go_sem, le1, lt1, *])
  have k3_1 := keep1 hb (b := w.heap.size) (o := 1) (v := .int .i64 a2) (by simp (maxDischargeDepth := 12) [go_sem, le1, lt1, *])
  have k3_2 := keep1 hb (b := w.heap.size + 1) (o := 0) (v := .int .i64 b1) (by simp (maxDischargeDepth := 12) [go_sem, le1, lt1, *])
  have k3_3 := keep1 hb (b := w.heap.size + 1) (o := 1) (v := .int .i64 b2) (by simp (maxDischargeDepth := 12) [go_sem, le1, lt1, *])
  have k3_4 := keep1 hb (b := w.heap.size + 1 + 1) (o := 0) (v := .int .i64 c1) (by simp (maxDischargeDepth := 12) [go_sem, le1, lt1, *])
  have k3_5 := keep1 hb (b := w.heap.size + 1 + 1) (o := 1) (v := .int .i64 c2) (by simp (maxDischargeDepth := 12) [go_sem, le1, lt1, *])
  have k3_6 := keep1 hb (b := w.heap.size + 1 + 1 + 1) (o := 0) (v := .int .i64 d1) (by simp (maxDischargeDepth := 12) [go_sem, le1, lt1, *])
  have k3_7 := keep1 hb (b := w.heap.size + 1 + 1 + 1) (o := 1) (v := .int .i64 d2) (by simp (maxDischargeDepth := 12) [go_sem, le1, lt1, *])
  have HB3 := hide hb
  clear hb
  clear k2_0 k2_1 k2_2 k2_3 k2_4 k2_5 k2_6 k2_7 lak2_0 lbk2_0 lck2_0 ldk2_0 lek2_0 lak2_2 lbk2_2 lck2_2 ldk2_2 lek2_2 lak2_4 lbk2_4 lck2_4 ldk2_4 lek2_4 lak2_6 lbk2_6 lck2_6 ldk2_6 lek2_6
  have lak3_0 := cell_lt k3_0
  have lbk3_0 := Nat.le_of_lt lak3_0
  have lck3_0 := lt1 (k := 1) lak3_0
  have ldk3_0 := lt1 (k := 1) lck3_0
  have lek3_0 := lt1 (k := 1) ldk3_0
  have lak3_2 := cell_lt k3_2
  have lbk3_2 := Nat.le_of_lt lak3_2
  have lck3_2 := lt1 (k := 1) lak3_2
  have ldk3_2 := lt1 (k := 1) lck3_2
  have lek3_2 := lt1 (k := 1) ldk3_2
  have lak3_4 := cell_lt k3_4
  have lbk3_4 := Nat.le_of_lt lak3_4
  have lck3_4 := lt1 (k := 1) lak3_4
  have ldk3_4 := lt1 (k := 1) lck3_4
  have lek3_4 := lt1 (k := 1) ldk3_4
  have lak3_6 := cell_lt k3_6
  have lbk3_6 := Nat.le_of_lt lak3_6
  have lck3_6 := lt1 (k := 1) lak3_6
  have ldk3_6 := lt1 (k := 1) lck3_6
  have lek3_6 := lt1 (k := 1) ldk3_6
  go_wp2_with fail
  refine (unhide H4 _).mono ?_
  rintro e W4 ⟨rfl, hb⟩
  have k4_0 := keep1 hb (b := w.heap.size) (o := 0) (v := .int .i64 a1) (by simp (maxDischargeDepth := 12) [go_sem, le1, lt1, *])
  have k4_1 := keep1 hb (b := w.heap.size) (o := 1) (v := .int .i64 a2) (by simp (maxDischargeDepth := 12) [go_sem, le1, lt1, *])
  have k4_2 := keep1 hb (b := w.heap.size + 1) (o := 0) (v := .int .i64 b1) (by simp (maxDischargeDepth := 12) [go_sem, le1, lt1, *])
  have k4_3 := keep1 hb (b := w.heap.size + 1) (o := 1) (v := .int .i64 b2) (by simp (maxDischargeDepth := 12) [go_sem, le1, lt1, *])
  have k4_4 := keep1 hb (b := w.heap.size + 1 + 1) (o := 0) (v := .int .i64 c1) (by simp (maxDischargeDepth := 12) [go_sem, le1, lt1, *])
  have k4_5 := keep1 hb (b := w.heap.size + 1 + 1) (o := 1) (v := .int .i64 c2) (by simp (maxDischargeDepth := 12) [go_sem, le1, lt1, *])
  have k4_6 := keep1 hb (b := w.heap.size + 1 + 1 + 1) (o := 0) (v := .int .i64 d1) (by simp (maxDischargeDepth := 12) [go_sem, le1, lt1, *])
  have k4_7 := keep1 hb (b := w.heap.size + 1 + 1 + 1) (o := 1) (v := .int .i64 d2) (by simp (maxDischargeDepth := 12) [go_sem, le1, lt1, *])
  have HB4 := hide hb
  clear hb
  clear k3_0 k3_1 k3_2 k3_3 k3_4 k3_5 k3_6 k3_7 lak3_0 lbk3_0 lck3_0 ldk3_0 lek3_0 lak3_2 lbk3_2 lck3_2 ldk3_2 lek3_2 lak3_4 lbk3_4 lck3_4 ldk3_4 lek3_4 lak3_6 lbk3_6 lck3_6 ldk3_6 lek3_6
  have lak4_0 := cell_lt k4_0
  have lbk4_0 := Nat.le_of_lt lak4_0
  have lck4_0 := lt1 (k := 1) lak4_0
  have ldk4_0 := lt1 (k := 1) lck4_0
  have lek4_0 := lt1 (k := 1) ldk4_0
  have lak4_2 := cell_lt k4_2
  have lbk4_2 := Nat.le_of_lt lak4_2
  have lck4_2 := lt1 (k := 1) lak4_2
  have ldk4_2 := lt1 (k := 1) lck4_2
  have lek4_2 := lt1 (k := 1) ldk4_2
  have lak4_4 := cell_lt k4_4
  have lbk4_4 := Nat.le_of_lt lak4_4
  have lck4_4 := lt1 (k := 1) lak4_4
  have ldk4_4 := lt1 (k := 1) lck4_4
  have lek4_4 := lt1 (k := 1) ldk4_4
  have lak4_6 := cell_lt k4_6
  have lbk4_6 := Nat.le_of_lt lak4_6
  have lck4_6 := lt1 (k := 1) lak4_6
  have ldk4_6 := lt1 (k := 1) lck4_6
  have lek4_6 := lt1 (k := 1) ldk4_6
  have E1 := hide (bc (bc (bc (bc (ba (ba (ba (ba (Below.refl w.heap.size w) _) _) _) _) (unhide HB1)) (unhide HB2)) (unhide HB3)) (unhide HB4))
  clear HB1 HB2 HB3 HB4
  go_wp2_with fail
  refine (unhide LC _).mono ?_
  rintro e W9 ⟨⟨v, rfl, hv⟩, hq⟩
  have HQ := hide hq
  have HV := hide hv
  clear hq hv
  go_wp2_with fail
  go_ret
  exact ⟨⟨_, rfl, (unhide HV).mono (unhide E1).size⟩, bc (unhide E1) (unhide HQ)⟩

set_option maxRecDepth 100000 in
set_option maxHeartbeats 4000000 in
theorem crossM_n1 (a1 a2 b1 b2 c1 c2 d1 d2 s t u v : Int) (w : World)
    (H1 : Hid (∀ W, Calls Try.prog 76 #[.agg #[.int .i64 a1, .int .i64 a2], .agg #[.int .i64 b1, .int .i64 b2], .agg #[.int .i64 c1, .int .i64 c2]] W fun e w' => e = .returned (.int .i64 s) ∧ Below W.heap.size W w'))
    (H2 : Hid (∀ W, Calls Try.prog 76 #[.agg #[.int .i64 a1, .int .i64 a2], .agg #[.int .i64 b1, .int .i64 b2], .agg #[.int .i64 d1, .int .i64 d2]] W fun e w' => e = .returned (.int .i64 t) ∧ Below W.heap.size W w'))
    (H3 : Hid (∀ W, Calls Try.prog 76 #[.agg #[.int .i64 c1, .int .i64 c2], .agg #[.int .i64 d1, .int .i64 d2], .agg #[.int .i64 a1, .int .i64 a2]] W fun e w' => e = .returned (.int .i64 u) ∧ Below W.heap.size W w'))
    (H4 : Hid (∀ W, Calls Try.prog 76 #[.agg #[.int .i64 c1, .int .i64 c2], .agg #[.int .i64 d1, .int .i64 d2], .agg #[.int .i64 b1, .int .i64 b2]] W fun e w' => e = .returned (.int .i64 v) ∧ Below W.heap.size W w'))
    (zz : (s == 0) = false ∨ (s == 0) = true ∧ (t == 0) = false ∨ (s == 0) = true ∧ (t == 0) = true ∧ (u == 0) = false ∨ (s == 0) = true ∧ (t == 0) = true ∧ (u == 0) = true ∧ (v == 0) = false)
    (S T U V : Int) (G1 : Hid (∀ W, Calls Try.prog 78 #[.int .i64 s] W fun e w' => e = .returned (.int .i64 S) ∧ w' = W)) (G2 : Hid (∀ W, Calls Try.prog 78 #[.int .i64 t] W fun e w' => e = .returned (.int .i64 T) ∧ w' = W))
    (G3 : Hid (∀ W, Calls Try.prog 78 #[.int .i64 u] W fun e w' => e = .returned (.int .i64 U) ∧ w' = W)) (G4 : Hid (∀ W, Calls Try.prog 78 #[.int .i64 v] W fun e w' => e = .returned (.int .i64 V) ∧ w' = W))
    (m1 : -1 ≤ S * T) (m2 : S * T ≤ 1) (m3 : -1 ≤ U * V) (m4 : U * V ≤ 1)
    (y1 : decide (0 < S * T) = true)
    :
    Calls Try.prog 61 #[.agg #[.int .i64 a1, .int .i64 a2], .agg #[.int .i64 b1, .int .i64 b2], .agg #[.int .i64 c1, .int .i64 c2], .agg #[.int .i64 d1, .int .i64 d2]] w fun e w' => (∃ k, e = .returned (.slice (some ⟨k, 0, none⟩) 0 0) ∧ w.heap.size ≤ k ∧ w'.heap[k]? = some (.cells #[] 93 (0, 0))) ∧ Below w.heap.size w w' := by
  rcases zz with z1 | ⟨z1, z2⟩ | ⟨z1, z2, z3⟩ | ⟨z1, z2, z3, z4⟩
  all_goals
    go_enter Try.func61, Try.ntmps61
    go_wp2_with fail
    refine (unhide H1 _).mono ?_
    rintro e W1 ⟨rfl, hb⟩
    have k1_0 := keep1 hb (b := w.heap.size) (o := 0) (v := .int .i64 a1) (by simp (maxDischargeDepth := 12) [go_sem, le1, lt1, *])
    have k1_1 := keep1 hb (b := w.heap.size) (o := 1) (v := .int .i64 a2) (by simp (maxDischargeDepth := 12) [go_sem, le1, lt1, *])
    have k1_2 := keep1 hb (b := w.heap.size + 1) (o := 0) (v := .int .i64 b1) (by simp (maxDischargeDepth := 12) [go_sem, le1, lt1, *])
    have k1_3 := keep1 hb (b := w.heap.size + 1) (o := 1) (v := .int .i64 b2) (by simp (maxDischargeDepth := 12) [go_sem, le1, lt1, *])
    have k1_4 := keep1 hb (b := w.heap.size + 1 + 1) (o := 0) (v := .int .i64 c1) (by simp (maxDischargeDepth := 12) [go_sem, le1, lt1, *])
    have k1_5 := keep1 hb (b := w.heap.size + 1 + 1) (o := 1) (v := .int .i64 c2) (by simp (maxDischargeDepth := 12) [go_sem, le1, lt1, *])
    have k1_6 := keep1 hb (b := w.heap.size + 1 + 1 + 1) (o := 0) (v := .int .i64 d1) (by simp (maxDischargeDepth := 12) [go_sem, le1, lt1, *])
    have k1_7 := keep1 hb (b := w.heap.size + 1 + 1 + 1) (o := 1) (v := .int .i64 d2) (by simp (maxDischargeDepth := 12) [go_sem, le1, lt1, *])
    have HB1 := hide hb
    clear hb
    have lak1_0 := cell_lt k1_0
    have lbk1_0 := Nat.le_of_lt lak1_0
    have lck1_0 := lt1 (k := 1) lak1_0
    have ldk1_0 := lt1 (k := 1) lck1_0
    have lek1_0 := lt1 (k := 1) ldk1_0
    have lak1_2 := cell_lt k1_2
    have lbk1_2 := Nat.le_of_lt lak1_2
    have lck1_2 := lt1 (k := 1) lak1_2
    have ldk1_2 := lt1 (k := 1) lck1_2
    have lek1_2 := lt1 (k := 1) ldk1_2
    have lak1_4 := cell_lt k1_4
    have lbk1_4 := Nat.le_of_lt lak1_4
    have lck1_4 := lt1 (k := 1) lak1_4
    have ldk1_4 := lt1 (k := 1) lck1_4
    have lek1_4 := lt1 (k := 1) ldk1_4
    have lak1_6 := cell_lt k1_6
    have lbk1_6 := Nat.le_of_lt lak1_6
    have lck1_6 := lt1 (k := 1) lak1_6
    have ldk1_6 := lt1 (k := 1) lck1_6
    have lek1_6 := lt1 (k := 1) ldk1_6
    go_wp2_with fail
    refine (unhide H2 _).mono ?_
    rintro e W2 ⟨rfl, hb⟩
    have k2_0 := keep1 hb (b := w.heap.size) (o := 0) (v := .int .i64 a1) (by simp (maxDischargeDepth := 12) [go_sem, le1, lt1, *])
    have k2_1 := keep1 hb (b := w.heap.size) (o := 1) (v := .int .i64 a2) (by simp (maxDischargeDepth := 12) [go_sem, le1, lt1, *])
    have k2_2 := keep1 hb (b := w.heap.size + 1) (o := 0) (v := .int .i64 b1) (by simp (maxDischargeDepth := 12) [go_sem, le1, lt1, *])
    have k2_3 := keep1 hb (b := w.heap.size + 1) (o := 1) (v := .int .i64 b2) (by simp (maxDischargeDepth := 12) [go_sem, le1, lt1, *])
    have k2_4 := keep1 hb (b := w.heap.size + 1 + 1) (o := 0) (v := .int .i64 c1) (by simp (maxDischargeDepth := 12) [go_sem, le1, lt1, *])
    have k2_5 := keep1 hb (b := w.heap.size + 1 + 1) (o := 1) (v := .int .i64 c2) (by simp (maxDischargeDepth := 12) [go_sem, le1, lt1, *])
    have k2_6 := keep1 hb (b := w.heap.size + 1 + 1 + 1) (o := 0) (v := .int .i64 d1) (by simp (maxDischargeDepth := 12) [go_sem, le1, lt1, *])
    have k2_7 := keep1 hb (b := w.heap.size + 1 + 1 + 1) (o := 1) (v := .int .i64 d2) (by simp (maxDischargeDepth := 12) [go_sem, le1, lt1, *])
    have HB2 := hide hb
    clear hb
    clear k1_0 k1_1 k1_2 k1_3 k1_4 k1_5 k1_6 k1_7 lak1_0 lbk1_0 lck1_0 ldk1_0 lek1_0 lak1_2 lbk1_2 lck1_2 ldk1_2 lek1_2 lak1_4 lbk1_4 lck1_4 ldk1_4 lek1_4 lak1_6 lbk1_6 lck1_6 ldk1_6 lek1_6
    have lak2_0 := cell_lt k2_0
    have lbk2_0 := Nat.le_of_lt lak2_0
    have lck2_0 := lt1 (k := 1) lak2_0
    have ldk2_0 := lt1 (k := 1) lck2_0
    have lek2_0 := lt1 (k := 1) ldk2_0
    have lak2_2 := cell_lt k2_2
    have lbk2_2 := Nat.le_of_lt lak2_2
    have lck2_2 := lt1 (k := 1) lak2_2
    have ldk2_2 := lt1 (k := 1) lck2_2
    have lek2_2 := lt1 (k := 1) ldk2_2
    have lak2_4 := cell_lt k2_4
    have lbk2_4 := Nat.le_of_lt lak2_4
    have lck2_4 := lt1 (k := 1) lak2_4
    have ldk2_4 := lt1 (k := 1) lck2_4
    have lek2_4 := lt1 (k := 1) ldk2_4
    have lak2_6 := cell_lt k2_6
    have lbk2_6 := Nat.le_of_lt lak2_6
    have lck2_6 := lt1 (k := 1) lak2_6
    have ldk2_6 := lt1 (k := 1) lck2_6
    have lek2_6 := lt1 (k := 1) ldk2_6
    go_wp2_with fail
    refine (unhide H3 _).mono ?_
    rintro e W3 ⟨rfl, hb⟩
    have k3_0 := keep1 hb (b := w.heap.size) (o := 0) (v := .int .i64 a1) (by simp (maxDischargeDepth := 12) [go_sem, le1, lt1, *])
    have k3_1 := keep1 hb (b := w.heap.size) (o := 1) (v := .int .i64 a2) (by simp (maxDischargeDepth := 12) [go_sem, le1, lt1, *])
    have k3_2 := keep1 hb (b := w.heap.size + 1) (o := 0) (v := .int .i64 b1) (by simp (maxDischargeDepth := 12) [go_sem, le1, lt1, *])
    have k3_3 := keep1 hb (b := w.heap.size + 1) (o := 1) (v := .int .i64 b2) (by simp (maxDischargeDepth := 12) [go_sem, le1, lt1, *])
    have k3_4 := keep1 hb (b := w.heap.size + 1 + 1) (o := 0) (v := .int .i64 c1) (by simp (maxDischargeDepth := 12) [go_sem, le1, lt1, *])
    have k3_5 := keep1 hb (b := w.heap.size + 1 + 1) (o := 1) (v := .int .i64 c2) (by simp (maxDischargeDepth := 12) [go_sem, le1, lt1, *])
    have k3_6 := keep1 hb (b := w.heap.size + 1 + 1 + 1) (o := 0) (v := .int .i64 d1) (by simp (maxDischargeDepth := 12) [go_sem, le1, lt1, *])
    have k3_7 := keep1 hb (b := w.heap.size + 1 + 1 + 1) (o := 1) (v := .int .i64 d2) (by simp (maxDischargeDepth := 12) [go_sem, le1, lt1, *])
    have HB3 := hide hb
    clear hb
    clear k2_0 k2_1 k2_2 k2_3 k2_4 k2_5 k2_6 k2_7 lak2_0 lbk2_0 lck2_0 ldk2_0 lek2_0 lak2_2 lbk2_2 lck2_2 ldk2_2 lek2_2 lak2_4 lbk2_4 lck2_4 ldk2_4 lek2_4 lak2_6 lbk2_6 lck2_6 ldk2_6 lek2_6
    have lak3_0 := cell_lt k3_0
    have lbk3_0 := Nat.le_of_lt lak3_0
    have lck3_0 := lt1 (k := 1) lak3_0
    have ldk3_0 := lt1 (k := 1) lck3_0
    have lek3_0 := lt1 (k := 1) ldk3_0
    have lak3_2 := cell_lt k3_2
    have lbk3_2 := Nat.le_of_lt lak3_2
    have lck3_2 := lt1 (k := 1) lak3_2
    have ldk3_2 := lt1 (k := 1) lck3_2
    have lek3_2 := lt1 (k := 1) ldk3_2
    have lak3_4 := cell_lt k3_4
    have lbk3_4 := Nat.le_of_lt lak3_4
    have lck3_4 := lt1 (k := 1) lak3_4
    have ldk3_4 := lt1 (k := 1) lck3_4
    have lek3_4 := lt1 (k := 1) ldk3_4
    have lak3_6 := cell_lt k3_6
    have lbk3_6 := Nat.le_of_lt lak3_6
    have lck3_6 := lt1 (k := 1) lak3_6
    have ldk3_6 := lt1 (k := 1) lck3_6
    have lek3_6 := lt1 (k := 1) ldk3_6
    go_wp2_with fail
    refine (unhide H4 _).mono ?_
    rintro e W4 ⟨rfl, hb⟩
    have HB4 := hide hb
    clear hb
    clear k3_0 k3_1 k3_2 k3_3 k3_4 k3_5 k3_6 k3_7 lak3_0 lbk3_0 lck3_0 ldk3_0 lek3_0 lak3_2 lbk3_2 lck3_2 ldk3_2 lek3_2 lak3_4 lbk3_4 lck3_4 ldk3_4 lek3_4 lak3_6 lbk3_6 lck3_6 ldk3_6 lek3_6
    have E1 := hide (bc (bc (bc (bc (ba (ba (ba (ba (Below.refl w.heap.size w) _) _) _) _) (unhide HB1)) (unhide HB2)) (unhide HB3)) (unhide HB4))
    clear HB1 HB2 HB3 HB4
    go_wp2_with fail
    refine (unhide G1 _).mono ?_
    rintro e W' ⟨rfl, rfl⟩
    go_wp2_with fail
    refine (unhide G2 _).mono ?_
    rintro e W' ⟨rfl, rfl⟩
    go_wp2_with fail
    go_ret
    exact ⟨⟨_, rfl, (unhide E1).size, blk_new _ _⟩, ba (unhide E1) _⟩

set_option maxRecDepth 100000 in
set_option maxHeartbeats 4000000 in
theorem crossM_n2 (a1 a2 b1 b2 c1 c2 d1 d2 s t u v : Int) (w : World)
    (H1 : Hid (∀ W, Calls Try.prog 76 #[.agg #[.int .i64 a1, .int .i64 a2], .agg #[.int .i64 b1, .int .i64 b2], .agg #[.int .i64 c1, .int .i64 c2]] W fun e w' => e = .returned (.int .i64 s) ∧ Below W.heap.size W w'))
    (H2 : Hid (∀ W, Calls Try.prog 76 #[.agg #[.int .i64 a1, .int .i64 a2], .agg #[.int .i64 b1, .int .i64 b2], .agg #[.int .i64 d1, .int .i64 d2]] W fun e w' => e = .returned (.int .i64 t) ∧ Below W.heap.size W w'))
    (H3 : Hid (∀ W, Calls Try.prog 76 #[.agg #[.int .i64 c1, .int .i64 c2], .agg #[.int .i64 d1, .int .i64 d2], .agg #[.int .i64 a1, .int .i64 a2]] W fun e w' => e = .returned (.int .i64 u) ∧ Below W.heap.size W w'))
    (H4 : Hid (∀ W, Calls Try.prog 76 #[.agg #[.int .i64 c1, .int .i64 c2], .agg #[.int .i64 d1, .int .i64 d2], .agg #[.int .i64 b1, .int .i64 b2]] W fun e w' => e = .returned (.int .i64 v) ∧ Below W.heap.size W w'))
    (zz : (s == 0) = false ∨ (s == 0) = true ∧ (t == 0) = false ∨ (s == 0) = true ∧ (t == 0) = true ∧ (u == 0) = false ∨ (s == 0) = true ∧ (t == 0) = true ∧ (u == 0) = true ∧ (v == 0) = false)
    (S T U V : Int) (G1 : Hid (∀ W, Calls Try.prog 78 #[.int .i64 s] W fun e w' => e = .returned (.int .i64 S) ∧ w' = W)) (G2 : Hid (∀ W, Calls Try.prog 78 #[.int .i64 t] W fun e w' => e = .returned (.int .i64 T) ∧ w' = W))
    (G3 : Hid (∀ W, Calls Try.prog 78 #[.int .i64 u] W fun e w' => e = .returned (.int .i64 U) ∧ w' = W)) (G4 : Hid (∀ W, Calls Try.prog 78 #[.int .i64 v] W fun e w' => e = .returned (.int .i64 V) ∧ w' = W))
    (m1 : -1 ≤ S * T) (m2 : S * T ≤ 1) (m3 : -1 ≤ U * V) (m4 : U * V ≤ 1)
    (y1 : decide (0 < S * T) = false) (y2 : decide (0 < U * V) = true)
    :
    Calls Try.prog 61 #[.agg #[.int .i64 a1, .int .i64 a2], .agg #[.int .i64 b1, .int .i64 b2], .agg #[.int .i64 c1, .int .i64 c2], .agg #[.int .i64 d1, .int .i64 d2]] w fun e w' => (∃ k, e = .returned (.slice (some ⟨k, 0, none⟩) 0 0) ∧ w.heap.size ≤ k ∧ w'.heap[k]? = some (.cells #[] 93 (0, 0))) ∧ Below w.heap.size w w' := by
  rcases zz with z1 | ⟨z1, z2⟩ | ⟨z1, z2, z3⟩ | ⟨z1, z2, z3, z4⟩
  all_goals
    go_enter Try.func61, Try.ntmps61
    go_wp2_with fail
    refine (unhide H1 _).mono ?_
    rintro e W1 ⟨rfl, hb⟩
    have k1_0 := keep1 hb (b := w.heap.size) (o := 0) (v := .int .i64 a1) (by simp (maxDischargeDepth := 12) [go_sem, le1, lt1, *])
    have k1_1 := keep1 hb (b := w.heap.size) (o := 1) (v := .int .i64 a2) (by simp (maxDischargeDepth := 12) [go_sem, le1, lt1, *])
    have k1_2 := keep1 hb (b := w.heap.size + 1) (o := 0) (v := .int .i64 b1) (by simp (maxDischargeDepth := 12) [go_sem, le1, lt1, *])
    have k1_3 := keep1 hb (b := w.heap.size + 1) (o := 1) (v := .int .i64 b2) (by simp (maxDischargeDepth := 12) [go_sem, le1, lt1, *])
    have k1_4 := keep1 hb (b := w.heap.size + 1 + 1) (o := 0) (v := .int .i64 c1) (by simp (maxDischargeDepth := 12) [go_sem, le1, lt1, *])
    have k1_5 := keep1 hb (b := w.heap.size + 1 + 1) (o := 1) (v := .int .i64 c2) (by simp (maxDischargeDepth := 12) [go_sem, le1, lt1, *])
    have k1_6 := keep1 hb (b := w.heap.size + 1 + 1 + 1) (o := 0) (v := .int .i64 d1) (by simp (maxDischargeDepth := 12) [go_sem, le1, lt1, *])
    have k1_7 := keep1 hb (b := w.heap.size + 1 + 1 + 1) (o := 1) (v := .int .i64 d2) (by simp (maxDischargeDepth := 12) [go_sem, le1, lt1, *])
    have HB1 := hide hb
    clear hb
    have lak1_0 := cell_lt k1_0
    have lbk1_0 := Nat.le_of_lt lak1_0
    have lck1_0 := lt1 (k := 1) lak1_0
    have ldk1_0 := lt1 (k := 1) lck1_0
    have lek1_0 := lt1 (k := 1) ldk1_0
    have lak1_2 := cell_lt k1_2
    have lbk1_2 := Nat.le_of_lt lak1_2
    have lck1_2 := lt1 (k := 1) lak1_2
    have ldk1_2 := lt1 (k := 1) lck1_2
    have lek1_2 := lt1 (k := 1) ldk1_2
    have lak1_4 := cell_lt k1_4
    have lbk1_4 := Nat.le_of_lt lak1_4
    have lck1_4 := lt1 (k := 1) lak1_4
    have ldk1_4 := lt1 (k := 1) lck1_4
    have lek1_4 := lt1 (k := 1) ldk1_4
    have lak1_6 := cell_lt k1_6
    have lbk1_6 := Nat.le_of_lt lak1_6
    have lck1_6 := lt1 (k := 1) lak1_6
    have ldk1_6 := lt1 (k := 1) lck1_6
    have lek1_6 := lt1 (k := 1) ldk1_6
    go_wp2_with fail
    refine (unhide H2 _).mono ?_
    rintro e W2 ⟨rfl, hb⟩
    have k2_0 := keep1 hb (b := w.heap.size) (o := 0) (v := .int .i64 a1) (by simp (maxDischargeDepth := 12) [go_sem, le1, lt1, *])
    have k2_1 := keep1 hb (b := w.heap.size) (o := 1) (v := .int .i64 a2) (by simp (maxDischargeDepth := 12) [go_sem, le1, lt1, *])
    have k2_2 := keep1 hb (b := w.heap.size + 1) (o := 0) (v := .int .i64 b1) (by simp (maxDischargeDepth := 12) [go_sem, le1, lt1, *])
    have k2_3 := keep1 hb (b := w.heap.size + 1) (o := 1) (v := .int .i64 b2) (by simp (maxDischargeDepth := 12) [go_sem, le1, lt1, *])
    have k2_4 := keep1 hb (b := w.heap.size + 1 + 1) (o := 0) (v := .int .i64 c1) (by simp (maxDischargeDepth := 12) [go_sem, le1, lt1, *])
    have k2_5 := keep1 hb (b := w.heap.size + 1 + 1) (o := 1) (v := .int .i64 c2) (by simp (maxDischargeDepth := 12) [go_sem, le1, lt1, *])
    have k2_6 := keep1 hb (b := w.heap.size + 1 + 1 + 1) (o := 0) (v := .int .i64 d1) (by simp (maxDischargeDepth := 12) [go_sem, le1, lt1, *])
    have k2_7 := keep1 hb (b := w.heap.size + 1 + 1 + 1) (o := 1) (v := .int .i64 d2) (by simp (maxDischargeDepth := 12) [go_sem, le1, lt1, *])
    have HB2 := hide hb
    clear hb
    clear k1_0 k1_1 k1_2 k1_3 k1_4 k1_5 k1_6 k1_7 lak1_0 lbk1_0 lck1_0 ldk1_0 lek1_0 lak1_2 lbk1_2 lck1_2 ldk1_2 lek1_2 lak1_4 lbk1_4 lck1_4 ldk1_4 lek1_4 lak1_6 lbk1_6 lck1_6 ldk1_6 lek1_6
    have lak2_0 := cell_lt k2_0
    have lbk2_0 := Nat.le_of_lt lak2_0
    have lck2_0 := lt1 (k := 1) lak2_0
    have ldk2_0 := lt1 (k := 1) lck2_0
    have lek2_0 := lt1 (k := 1) ldk2_0
    have lak2_2 := cell_lt k2_2
    have lbk2_2 := Nat.le_of_lt lak2_2
    have lck2_2 := lt1 (k := 1) lak2_2
    have ldk2_2 := lt1 (k := 1) lck2_2
    have lek2_2 := lt1 (k := 1) ldk2_2
    have lak2_4 := cell_lt k2_4
    have lbk2_4 := Nat.le_of_lt lak2_4
    have lck2_4 := lt1 (k := 1) lak2_4
    have ldk2_4 := lt1 (k := 1) lck2_4
    have lek2_4 := lt1 (k := 1) ldk2_4
    have lak2_6 := cell_lt k2_6
    have lbk2_6 := Nat.le_of_lt lak2_6
    have lck2_6 := lt1 (k := 1) lak2_6
    have ldk2_6 := lt1 (k := 1) lck2_6
    have lek2_6 := lt1 (k := 1) ldk2_6
    go_wp2_with fail
    refine (unhide H3 _).mono ?_
    rintro e W3 ⟨rfl, hb⟩
    have k3_0 := keep1 hb (b := w.heap.size) (o := 0) (v := .int .i64 a1) (by simp (maxDischargeDepth := 12) [go_sem, le1, lt1, *])
    have k3_1 := keep1 hb (b := w.heap.size) (o := 1) (v := .int .i64 a2) (by simp (maxDischargeDepth := 12) [go_sem, le1, lt1, *])
    have k3_2 := keep1 hb (b := w.heap.size + 1) (o := 0) (v := .int .i64 b1) (by simp (maxDischargeDepth := 12) [go_sem, le1, lt1, *])
    have k3_3 := keep1 hb (b := w.heap.size + 1) (o := 1) (v := .int .i64 b2) (by simp (maxDischargeDepth := 12) [go_sem, le1, lt1, *])
    have k3_4 := keep1 hb (b := w.heap.size + 1 + 1) (o := 0) (v := .int .i64 c1) (by simp (maxDischargeDepth := 12) [go_sem, le1, lt1, *])
    have k3_5 := keep1 hb (b := w.heap.size + 1 + 1) (o := 1) (v := .int .i64 c2) (by simp (maxDischargeDepth := 12) [go_sem, le1, lt1, *])
    have k3_6 := keep1 hb (b := w.heap.size + 1 + 1 + 1) (o := 0) (v := .int .i64 d1) (by simp (maxDischargeDepth := 12) [go_sem, le1, lt1, *])
    have k3_7 := keep1 hb (b := w.heap.size + 1 + 1 + 1) (o := 1) (v := .int .i64 d2) (by simp (maxDischargeDepth := 12) [go_sem, le1, lt1, *])
    have HB3 := hide hb
    clear hb
    clear k2_0 k2_1 k2_2 k2_3 k2_4 k2_5 k2_6 k2_7 lak2_0 lbk2_0 lck2_0 ldk2_0 lek2_0 lak2_2 lbk2_2 lck2_2 ldk2_2 lek2_2 lak2_4 lbk2_4 lck2_4 ldk2_4 lek2_4 lak2_6 lbk2_6 lck2_6 ldk2_6 lek2_6
    have lak3_0 := cell_lt k3_0
    have lbk3_0 := Nat.le_of_lt lak3_0
    have lck3_0 := lt1 (k := 1) lak3_0
    have ldk3_0 := lt1 (k := 1) lck3_0
    have lek3_0 := lt1 (k := 1) ldk3_0
    have lak3_2 := cell_lt k3_2
    have lbk3_2 := Nat.le_of_lt lak3_2
    have lck3_2 := lt1 (k := 1) lak3_2
    have ldk3_2 := lt1 (k := 1) lck3_2
    have lek3_2 := lt1 (k := 1) ldk3_2
    have lak3_4 := cell_lt k3_4
    have lbk3_4 := Nat.le_of_lt lak3_4
    have lck3_4 := lt1 (k := 1) lak3_4
    have ldk3_4 := lt1 (k := 1) lck3_4
    have lek3_4 := lt1 (k := 1) ldk3_4
    have lak3_6 := cell_lt k3_6
    have lbk3_6 := Nat.le_of_lt lak3_6
    have lck3_6 := lt1 (k := 1) lak3_6
    have ldk3_6 := lt1 (k := 1) lck3_6
    have lek3_6 := lt1 (k := 1) ldk3_6
    go_wp2_with fail
    refine (unhide H4 _).mono ?_
    rintro e W4 ⟨rfl, hb⟩
    have HB4 := hide hb
    clear hb
    clear k3_0 k3_1 k3_2 k3_3 k3_4 k3_5 k3_6 k3_7 lak3_0 lbk3_0 lck3_0 ldk3_0 lek3_0 lak3_2 lbk3_2 lck3_2 ldk3_2 lek3_2 lak3_4 lbk3_4 lck3_4 ldk3_4 lek3_4 lak3_6 lbk3_6 lck3_6 ldk3_6 lek3_6
    have E1 := hide (bc (bc (bc (bc (ba (ba (ba (ba (Below.refl w.heap.size w) _) _) _) _) (unhide HB1)) (unhide HB2)) (unhide HB3)) (unhide HB4))
    clear HB1 HB2 HB3 HB4
    go_wp2_with fail
    refine (unhide G1 _).mono ?_
    rintro e W' ⟨rfl, rfl⟩
    go_wp2_with fail
    refine (unhide G2 _).mono ?_
    rintro e W' ⟨rfl, rfl⟩
    go_wp2_with fail
    refine (unhide G3 _).mono ?_
    rintro e W' ⟨rfl, rfl⟩
    go_wp2_with fail
    refine (unhide G4 _).mono ?_
    rintro e W' ⟨rfl, rfl⟩
    go_wp2_with fail
    go_ret
    exact ⟨⟨_, rfl, (unhide E1).size, blk_new _ _⟩, ba (unhide E1) _⟩

set_option maxRecDepth 100000 in
set_option maxHeartbeats 4000000 in
theorem crossM_x (a1 a2 b1 b2 c1 c2 d1 d2 s t u v : Int) (w : World)
    (H1 : Hid (∀ W, Calls Try.prog 76 #[.agg #[.int .i64 a1, .int .i64 a2], .agg #[.int .i64 b1, .int .i64 b2], .agg #[.int .i64 c1, .int .i64 c2]] W fun e w' => e = .returned (.int .i64 s) ∧ Below W.heap.size W w'))
    (H2 : Hid (∀ W, Calls Try.prog 76 #[.agg #[.int .i64 a1, .int .i64 a2], .agg #[.int .i64 b1, .int .i64 b2], .agg #[.int .i64 d1, .int .i64 d2]] W fun e w' => e = .returned (.int .i64 t) ∧ Below W.heap.size W w'))
    (H3 : Hid (∀ W, Calls Try.prog 76 #[.agg #[.int .i64 c1, .int .i64 c2], .agg #[.int .i64 d1, .int .i64 d2], .agg #[.int .i64 a1, .int .i64 a2]] W fun e w' => e = .returned (.int .i64 u) ∧ Below W.heap.size W w'))
    (H4 : Hid (∀ W, Calls Try.prog 76 #[.agg #[.int .i64 c1, .int .i64 c2], .agg #[.int .i64 d1, .int .i64 d2], .agg #[.int .i64 b1, .int .i64 b2]] W fun e w' => e = .returned (.int .i64 v) ∧ Below W.heap.size W w'))
    (zz : (s == 0) = false ∨ (s == 0) = true ∧ (t == 0) = false)
    (S T U V : Int) (G1 : Hid (∀ W, Calls Try.prog 78 #[.int .i64 s] W fun e w' => e = .returned (.int .i64 S) ∧ w' = W)) (G2 : Hid (∀ W, Calls Try.prog 78 #[.int .i64 t] W fun e w' => e = .returned (.int .i64 T) ∧ w' = W))
    (G3 : Hid (∀ W, Calls Try.prog 78 #[.int .i64 u] W fun e w' => e = .returned (.int .i64 U) ∧ w' = W)) (G4 : Hid (∀ W, Calls Try.prog 78 #[.int .i64 v] W fun e w' => e = .returned (.int .i64 V) ∧ w' = W))
    (m1 : -1 ≤ S * T) (m2 : S * T ≤ 1) (m3 : -1 ≤ U * V) (m4 : U * V ≤ 1)
    (y1 : decide (0 < S * T) = false) (y2 : decide (0 < U * V) = false)
    (nab : (a1 == b1) = false ∨ (a1 == b1) = true ∧ (a2 == b2) = false) (ncd : (c1 == d1) = false ∨ (c1 == d1) = true ∧ (c2 == d2) = false)
    (LM : Hid ((-160000000000 ≤ s - t ∧ s - t ≤ 160000000000) ∧ (-200000 ≤ d1 - c1 ∧ d1 - c1 ≤ 200000) ∧ (-200000 ≤ d2 - c2 ∧ d2 - c2 ≤ 200000) ∧ (-16000000000000000 ≤ c1 * (s - t) ∧ c1 * (s - t) ≤ 16000000000000000) ∧ (-16000000000000000 ≤ (d1 - c1) * s ∧ (d1 - c1) * s ≤ 16000000000000000) ∧ (-16000000000000000 ≤ c2 * (s - t) ∧ c2 * (s - t) ≤ 16000000000000000) ∧ (-16000000000000000 ≤ (d2 - c2) * s ∧ (d2 - c2) * s ≤ 16000000000000000)))
    (x y z : Int) (LS : Hid (∀ W, Calls Try.prog 81 #[.int .i64 (c1 * (s - t) + (d1 - c1) * s), .int .i64 (c2 * (s - t) + (d2 - c2) * s), .int .i64 (s - t)] W fun e w' => e = .returned (.agg #[.int .i64 x, .int .i64 y, .int .i64 z]) ∧ Below W.heap.size W w'))
    :
    Calls Try.prog 61 #[.agg #[.int .i64 a1, .int .i64 a2], .agg #[.int .i64 b1, .int .i64 b2], .agg #[.int .i64 c1, .int .i64 c2], .agg #[.int .i64 d1, .int .i64 d2]] w fun e w' => (∃ k, e = .returned (.slice (some ⟨k, 0, none⟩) 1 1) ∧ w.heap.size ≤ k ∧ w'.heap[k]? = some (.cells #[.int .i64 x, .int .i64 y, .int .i64 z] 93 (0, 0))) ∧ Below w.heap.size w w' := by
  rcases zz with z1 | ⟨z1, z2⟩ <;> rcases nab with n1 | ⟨n1, n2⟩ <;> rcases ncd with o1 | ⟨o1, o2⟩
  all_goals
    go_enter Try.func61, Try.ntmps61
    go_wp2_with fail
    refine (unhide H1 _).mono ?_
    rintro e W1 ⟨rfl, hb⟩
    have k1_0 := keep1 hb (b := w.heap.size) (o := 0) (v := .int .i64 a1) (by simp (maxDischargeDepth := 12) [go_sem, le1, lt1, *])
    have k1_1 := keep1 hb (b := w.heap.size) (o := 1) (v := .int .i64 a2) (by simp (maxDischargeDepth := 12) [go_sem, le1, lt1, *])
    have k1_2 := keep1 hb (b := w.heap.size + 1) (o := 0) (v := .int .i64 b1) (by simp (maxDischargeDepth := 12) [go_sem, le1, lt1, *])
    have k1_3 := keep1 hb (b := w.heap.size + 1) (o := 1) (v := .int .i64 b2) (by simp (maxDischargeDepth := 12) [go_sem, le1, lt1, *])
    have k1_4 := keep1 hb (b := w.heap.size + 1 + 1) (o := 0) (v := .int .i64 c1) (by simp (maxDischargeDepth := 12) [go_sem, le1, lt1, *])
    have k1_5 := keep1 hb (b := w.heap.size + 1 + 1) (o := 1) (v := .int .i64 c2) (by simp (maxDischargeDepth := 12) [go_sem, le1, lt1, *])
    have k1_6 := keep1 hb (b := w.heap.size + 1 + 1 + 1) (o := 0) (v := .int .i64 d1) (by simp (maxDischargeDepth := 12) [go_sem, le1, lt1, *])
    have k1_7 := keep1 hb (b := w.heap.size + 1 + 1 + 1) (o := 1) (v := .int .i64 d2) (by simp (maxDischargeDepth := 12) [go_sem, le1, lt1, *])
    have HB1 := hide hb
    clear hb
    have lak1_0 := cell_lt k1_0
    have lbk1_0 := Nat.le_of_lt lak1_0
    have lck1_0 := lt1 (k := 1) lak1_0
    have ldk1_0 := lt1 (k := 1) lck1_0
    have lek1_0 := lt1 (k := 1) ldk1_0
    have lak1_2 := cell_lt k1_2
    have lbk1_2 := Nat.le_of_lt lak1_2
    have lck1_2 := lt1 (k := 1) lak1_2
    have ldk1_2 := lt1 (k := 1) lck1_2
    have lek1_2 := lt1 (k := 1) ldk1_2
    have lak1_4 := cell_lt k1_4
    have lbk1_4 := Nat.le_of_lt lak1_4
    have lck1_4 := lt1 (k := 1) lak1_4
    have ldk1_4 := lt1 (k := 1) lck1_4
    have lek1_4 := lt1 (k := 1) ldk1_4
    have lak1_6 := cell_lt k1_6
    have lbk1_6 := Nat.le_of_lt lak1_6
    have lck1_6 := lt1 (k := 1) lak1_6
    have ldk1_6 := lt1 (k := 1) lck1_6
    have lek1_6 := lt1 (k := 1) ldk1_6
    go_wp2_with fail
    refine (unhide H2 _).mono ?_
    rintro e W2 ⟨rfl, hb⟩
    have k2_0 := keep1 hb (b := w.heap.size) (o := 0) (v := .int .i64 a1) (by simp (maxDischargeDepth := 12) [go_sem, le1, lt1, *])
    have k2_1 := keep1 hb (b := w.heap.size) (o := 1) (v := .int .i64 a2) (by simp (maxDischargeDepth := 12) [go_sem, le1, lt1, *])
    have k2_2 := keep1 hb (b := w.heap.size + 1) (o := 0) (v := .int .i64 b1) (by simp (maxDischargeDepth := 12) [go_sem, le1, lt1, *])
    have k2_3 := keep1 hb (b := w.heap.size + 1) (o := 1) (v := .int .i64 b2) (by simp (maxDischargeDepth := 12) [go_sem, le1, lt1, *])
    have k2_4 := keep1 hb (b := w.heap.size + 1 + 1) (o := 0) (v := .int .i64 c1) (by simp (maxDischargeDepth := 12) [go_sem, le1, lt1, *])
    have k2_5 := keep1 hb (b := w.heap.size + 1 + 1) (o := 1) (v := .int .i64 c2) (by simp (maxDischargeDepth := 12) [go_sem, le1, lt1, *])
    have k2_6 := keep1 hb (b := w.heap.size + 1 + 1 + 1) (o := 0) (v := .int .i64 d1) (by simp (maxDischargeDepth := 12) [go_sem, le1, lt1, *])
    have k2_7 := keep1 hb (b := w.heap.size + 1 + 1 + 1) (o := 1) (v := .int .i64 d2) (by simp (maxDischargeDepth := 12) [go_sem, le1, lt1, *])
    have HB2 := hide hb
    clear hb
    clear k1_0 k1_1 k1_2 k1_3 k1_4 k1_5 k1_6 k1_7 lak1_0 lbk1_0 lck1_0 ldk1_0 lek1_0 lak1_2 lbk1_2 lck1_2 ldk1_2 lek1_2 lak1_4 lbk1_4 lck1_4 ldk1_4 lek1_4 lak1_6 lbk1_6 lck1_6 ldk1_6 lek1_6
    have lak2_0 := cell_lt k2_0
    have lbk2_0 := Nat.le_of_lt lak2_0
    have lck2_0 := lt1 (k := 1) lak2_0
    have ldk2_0 := lt1 (k := 1) lck2_0
    have lek2_0 := lt1 (k := 1) ldk2_0
    have lak2_2 := cell_lt k2_2
    have lbk2_2 := Nat.le_of_lt lak2_2
    have lck2_2 := lt1 (k := 1) lak2_2
    have ldk2_2 := lt1 (k := 1) lck2_2
    have lek2_2 := lt1 (k := 1) ldk2_2
    have lak2_4 := cell_lt k2_4
    have lbk2_4 := Nat.le_of_lt lak2_4
    have lck2_4 := lt1 (k := 1) lak2_4
    have ldk2_4 := lt1 (k := 1) lck2_4
    have lek2_4 := lt1 (k := 1) ldk2_4
    have lak2_6 := cell_lt k2_6
    have lbk2_6 := Nat.le_of_lt lak2_6
    have lck2_6 := lt1 (k := 1) lak2_6
    have ldk2_6 := lt1 (k := 1) lck2_6
    have lek2_6 := lt1 (k := 1) ldk2_6
    go_wp2_with fail
    refine (unhide H3 _).mono ?_
    rintro e W3 ⟨rfl, hb⟩
    have k3_0 := keep1 hb (b := w.heap.size) (o := 0) (v := .int .i64 a1) (by simp (maxDischargeDepth := 12) [go_sem, le1, lt1, *])
    have k3_1 := keep1 hb (b := w.heap.size) (o := 1) (v := .int .i64 a2) (by simp (maxDischargeDepth := 12) [go_sem, le1, lt1, *])
    have k3_2 := keep1 hb (b := w.heap.size + 1) (o := 0) (v := .int .i64 b1) (by simp (maxDischargeDepth := 12) [go_sem, le1, lt1, *])
    have k3_3 := keep1 hb (b := w.heap.size + 1) (o := 1) (v := .int .i64 b2) (by simp (maxDischargeDepth := 12) [go_sem, le1, lt1, *])
    have k3_4 := keep1 hb (b := w.heap.size + 1 + 1) (o := 0) (v := .int .i64 c1) (by simp (maxDischargeDepth := 12) [go_sem, le1, lt1, *])
    have k3_5 := keep1 hb (b := w.heap.size + 1 + 1) (o := 1) (v := .int .i64 c2) (by simp (maxDischargeDepth := 12) [go_sem, le1, lt1, *])
    have k3_6 := keep1 hb (b := w.heap.size + 1 + 1 + 1) (o := 0) (v := .int .i64 d1) (by simp (maxDischargeDepth := 12) [go_sem, le1, lt1, *])
    have k3_7 := keep1 hb (b := w.heap.size + 1 + 1 + 1) (o := 1) (v := .int .i64 d2) (by simp (maxDischargeDepth := 12) [go_sem, le1, lt1, *])
    have HB3 := hide hb
    clear hb
    clear k2_0 k2_1 k2_2 k2_3 k2_4 k2_5 k2_6 k2_7 lak2_0 lbk2_0 lck2_0 ldk2_0 lek2_0 lak2_2 lbk2_2 lck2_2 ldk2_2 lek2_2 lak2_4 lbk2_4 lck2_4 ldk2_4 lek2_4 lak2_6 lbk2_6 lck2_6 ldk2_6 lek2_6
    have lak3_0 := cell_lt k3_0
    have lbk3_0 := Nat.le_of_lt lak3_0
    have lck3_0 := lt1 (k := 1) lak3_0
    have ldk3_0 := lt1 (k := 1) lck3_0
    have lek3_0 := lt1 (k := 1) ldk3_0
    have lak3_2 := cell_lt k3_2
    have lbk3_2 := Nat.le_of_lt lak3_2
    have lck3_2 := lt1 (k := 1) lak3_2
    have ldk3_2 := lt1 (k := 1) lck3_2
    have lek3_2 := lt1 (k := 1) ldk3_2
    have lak3_4 := cell_lt k3_4
    have lbk3_4 := Nat.le_of_lt lak3_4
    have lck3_4 := lt1 (k := 1) lak3_4
    have ldk3_4 := lt1 (k := 1) lck3_4
    have lek3_4 := lt1 (k := 1) ldk3_4
    have lak3_6 := cell_lt k3_6
    have lbk3_6 := Nat.le_of_lt lak3_6
    have lck3_6 := lt1 (k := 1) lak3_6
    have ldk3_6 := lt1 (k := 1) lck3_6
    have lek3_6 := lt1 (k := 1) ldk3_6
    go_wp2_with fail
    refine (unhide H4 _).mono ?_
    rintro e W4 ⟨rfl, hb⟩
    have k4_0 := keep1 hb (b := w.heap.size) (o := 0) (v := .int .i64 a1) (by simp (maxDischargeDepth := 12) [go_sem, le1, lt1, *])
    have k4_1 := keep1 hb (b := w.heap.size) (o := 1) (v := .int .i64 a2) (by simp (maxDischargeDepth := 12) [go_sem, le1, lt1, *])
    have k4_2 := keep1 hb (b := w.heap.size + 1) (o := 0) (v := .int .i64 b1) (by simp (maxDischargeDepth := 12) [go_sem, le1, lt1, *])
    have k4_3 := keep1 hb (b := w.heap.size + 1) (o := 1) (v := .int .i64 b2) (by simp (maxDischargeDepth := 12) [go_sem, le1, lt1, *])
    have k4_4 := keep1 hb (b := w.heap.size + 1 + 1) (o := 0) (v := .int .i64 c1) (by simp (maxDischargeDepth := 12) [go_sem, le1, lt1, *])
    have k4_5 := keep1 hb (b := w.heap.size + 1 + 1) (o := 1) (v := .int .i64 c2) (by simp (maxDischargeDepth := 12) [go_sem, le1, lt1, *])
    have k4_6 := keep1 hb (b := w.heap.size + 1 + 1 + 1) (o := 0) (v := .int .i64 d1) (by simp (maxDischargeDepth := 12) [go_sem, le1, lt1, *])
    have k4_7 := keep1 hb (b := w.heap.size + 1 + 1 + 1) (o := 1) (v := .int .i64 d2) (by simp (maxDischargeDepth := 12) [go_sem, le1, lt1, *])
    have HB4 := hide hb
    clear hb
    clear k3_0 k3_1 k3_2 k3_3 k3_4 k3_5 k3_6 k3_7 lak3_0 lbk3_0 lck3_0 ldk3_0 lek3_0 lak3_2 lbk3_2 lck3_2 ldk3_2 lek3_2 lak3_4 lbk3_4 lck3_4 ldk3_4 lek3_4 lak3_6 lbk3_6 lck3_6 ldk3_6 lek3_6
    have lak4_0 := cell_lt k4_0
    have lbk4_0 := Nat.le_of_lt lak4_0
    have lck4_0 := lt1 (k := 1) lak4_0
    have ldk4_0 := lt1 (k := 1) lck4_0
    have lek4_0 := lt1 (k := 1) ldk4_0
    have lak4_2 := cell_lt k4_2
    have lbk4_2 := Nat.le_of_lt lak4_2
    have lck4_2 := lt1 (k := 1) lak4_2
    have ldk4_2 := lt1 (k := 1) lck4_2
    have lek4_2 := lt1 (k := 1) ldk4_2
    have lak4_4 := cell_lt k4_4
    have lbk4_4 := Nat.le_of_lt lak4_4
    have lck4_4 := lt1 (k := 1) lak4_4
    have ldk4_4 := lt1 (k := 1) lck4_4
    have lek4_4 := lt1 (k := 1) ldk4_4
    have lak4_6 := cell_lt k4_6
    have lbk4_6 := Nat.le_of_lt lak4_6
    have lck4_6 := lt1 (k := 1) lak4_6
    have ldk4_6 := lt1 (k := 1) lck4_6
    have lek4_6 := lt1 (k := 1) ldk4_6
    have E1 := hide (bc (bc (bc (bc (ba (ba (ba (ba (Below.refl w.heap.size w) _) _) _) _) (unhide HB1)) (unhide HB2)) (unhide HB3)) (unhide HB4))
    clear HB1 HB2 HB3 HB4
    go_wp2_with fail
    refine (unhide G1 _).mono ?_
    rintro e W' ⟨rfl, rfl⟩
    go_wp2_with fail
    refine (unhide G2 _).mono ?_
    rintro e W' ⟨rfl, rfl⟩
    go_wp2_with fail
    refine (unhide G3 _).mono ?_
    rintro e W' ⟨rfl, rfl⟩
    go_wp2_with fail
    refine (unhide G4 _).mono ?_
    rintro e W' ⟨rfl, rfl⟩
    have LM2 := unhide LM
    obtain ⟨⟨p1, p2⟩, ⟨p3, p4⟩, ⟨p5, p6⟩, ⟨p7, p8⟩, ⟨p9, r1⟩, ⟨r2, r3⟩, r4, r5⟩ := LM2
    clear LM
    go_wp2_with fail
    refine (unhide LS _).mono ?_
    rintro e W8 ⟨rfl, hq⟩
    have HQ := hide (bc (unhide E1) hq)
    clear hq
    go_wp2_with fail
    go_ret
    exact ⟨⟨_, rfl, (unhide HQ).size, blk_new _ _⟩, ba (unhide HQ) _⟩
end Go.Proofs.Ytimkinpbimangaa
