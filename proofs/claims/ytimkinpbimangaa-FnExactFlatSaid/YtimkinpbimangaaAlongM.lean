/-
  What two segments of one line have in common, as the model finds it, however their ends stand.
-/
import Derived.Test.YtimkinpbimangaaAlongMe
import Derived.Test.YtimkinpbimangaaAlongMl
import Derived.Test.YtimkinpbimangaaAlongMg
import Derived.Test.YtimkinpbimangaaCommonP
namespace Go.Proofs.Ytimkinpbimangaa
open Go.ChangeShapes Go.WideShapes Go.ChangeAt Go.RowKit
set_option linter.unusedVariables false
set_option linter.unusedSimpArgs false

set_option maxRecDepth 100000 in
set_option maxHeartbeats 1000000 in
theorem alongM_swap1 (a1 a2 b1 b2 c1 c2 d1 d2 : Int) (L : List Sp) (w : World)
    (L1 : Hid (∀ W, Calls Try.prog 91 #[.agg #[.int .i64 b1, .int .i64 b2], .agg #[.int .i64 a1, .int .i64 a2]] W fun e w' => e = .returned (.bool true) ∧ Below W.heap.size W w'))
    (LC : Hid (∀ W, Calls Try.prog 77 #[.agg #[.int .i64 b1, .int .i64 b2], .agg #[.int .i64 a1, .int .i64 a2], .agg #[.int .i64 c1, .int .i64 c2], .agg #[.int .i64 d1, .int .i64 d2]] W fun e w' => (∃ v, e = .returned v ∧ IsSpots W.heap.size w' v L) ∧ Below W.heap.size W w')) :
    Calls Try.prog 77 #[.agg #[.int .i64 a1, .int .i64 a2], .agg #[.int .i64 b1, .int .i64 b2], .agg #[.int .i64 c1, .int .i64 c2], .agg #[.int .i64 d1, .int .i64 d2]] w fun e w' => (∃ v, e = .returned v ∧ IsSpots w.heap.size w' v L) ∧ Below w.heap.size w w' := by
  go_enter Try.func77, Try.ntmps77
  go_wp2_with fail
  refine (unhide L1 _).mono ?_
  rintro e W1 ⟨rfl, hb⟩
  have k1_0 := keep1 hb (b := w.heap.size) (o := 0) (v := .int .i64 a1) (by simp (maxDischargeDepth := 12) [go_sem, le1, lt1, *])
  have k1_1 := keep1 hb (b := w.heap.size) (o := 1) (v := .int .i64 a2) (by simp (maxDischargeDepth := 12) [go_sem, le1, lt1, *])
  have k1_2 := keep1 hb (b := w.heap.size + 1) (o := 0) (v := .int .i64 b1) (by simp (maxDischargeDepth := 12) [go_sem, le1, lt1, *])
  have k1_3 := keep1 hb (b := w.heap.size + 1) (o := 1) (v := .int .i64 b2) (by simp (maxDischargeDepth := 12) [go_sem, le1, lt1, *])
  have k1_4 := keep1 hb (b := w.heap.size + 1 + 1) (o := 0) (v := .int .i64 c1) (by simp (maxDischargeDepth := 12) [go_sem, le1, lt1, *])
  have k1_5 := keep1 hb (b := w.heap.size + 1 + 1) (o := 1) (v := .int .i64 c2) (by simp (maxDischargeDepth := 12) [go_sem, le1, lt1, *])
  have k1_6 := keep1 hb (b := w.heap.size + 1 + 1 + 1) (o := 0) (v := .int .i64 d1) (by simp (maxDischargeDepth := 12) [go_sem, le1, lt1, *])
  have k1_7 := keep1 hb (b := w.heap.size + 1 + 1 + 1) (o := 1) (v := .int .i64 d2) (by simp (maxDischargeDepth := 12) [go_sem, le1, lt1, *])
  have HB1 := hide hb
  clear hb
  have lak1_0 := cell_lt k1_0
  have lbk1_0 := Nat.le_of_lt lak1_0
  have lck1_0 := lt1 (k := 1) lak1_0
  have ldk1_0 := lt1 (k := 1) lck1_0
  have lek1_0 := lt1 (k := 1) ldk1_0
  have lak1_2 := cell_lt k1_2
  have lbk1_2 := Nat.le_of_lt lak1_2
  have lck1_2 := lt1 (k := 1) lak1_2
  have ldk1_2 := lt1 (k := 1) lck1_2
  have lek1_2 := lt1 (k := 1) ldk1_2
  have lak1_4 := cell_lt k1_4
  have lbk1_4 := Nat.le_of_lt lak1_4
  have lck1_4 := lt1 (k := 1) lak1_4
  have ldk1_4 := lt1 (k := 1) lck1_4
  have lek1_4 := lt1 (k := 1) ldk1_4
  have lak1_6 := cell_lt k1_6
  have lbk1_6 := Nat.le_of_lt lak1_6
  have lck1_6 := lt1 (k := 1) lak1_6
  have ldk1_6 := lt1 (k := 1) lck1_6
  have lek1_6 := lt1 (k := 1) ldk1_6
  go_wp2_with fail
  refine (unhide LC _).mono ?_
  rintro e W9 ⟨⟨v, rfl, hv⟩, hq⟩
  have HQ := hide hq
  have HV := hide hv
  clear hq hv
  have E1 := hide (bc (ba (ba (ba (ba (Below.refl w.heap.size w) _) _) _) _) (unhide HB1))
  go_wp2_with fail
  go_ret
  exact ⟨⟨_, rfl, (unhide HV).mono (unhide E1).size⟩, bc (unhide E1) (unhide HQ)⟩

set_option maxRecDepth 100000 in
set_option maxHeartbeats 1000000 in
theorem alongM_swap2 (a1 a2 b1 b2 c1 c2 d1 d2 : Int) (L : List Sp) (w : World)
    (L1 : Hid (∀ W, Calls Try.prog 91 #[.agg #[.int .i64 b1, .int .i64 b2], .agg #[.int .i64 a1, .int .i64 a2]] W fun e w' => e = .returned (.bool false) ∧ Below W.heap.size W w'))
    (L2 : Hid (∀ W, Calls Try.prog 91 #[.agg #[.int .i64 d1, .int .i64 d2], .agg #[.int .i64 c1, .int .i64 c2]] W fun e w' => e = .returned (.bool true) ∧ Below W.heap.size W w'))
    (LC : Hid (∀ W, Calls Try.prog 77 #[.agg #[.int .i64 a1, .int .i64 a2], .agg #[.int .i64 b1, .int .i64 b2], .agg #[.int .i64 d1, .int .i64 d2], .agg #[.int .i64 c1, .int .i64 c2]] W fun e w' => (∃ v, e = .returned v ∧ IsSpots W.heap.size w' v L) ∧ Below W.heap.size W w')) :
    Calls Try.prog 77 #[.agg #[.int .i64 a1, .int .i64 a2], .agg #[.int .i64 b1, .int .i64 b2], .agg #[.int .i64 c1, .int .i64 c2], .agg #[.int .i64 d1, .int .i64 d2]] w fun e w' => (∃ v, e = .returned v ∧ IsSpots w.heap.size w' v L) ∧ Below w.heap.size w w' := by
  go_enter Try.func77, Try.ntmps77
  go_wp2_with fail
  refine (unhide L1 _).mono ?_
  rintro e W1 ⟨rfl, hb⟩
  have k1_0 := keep1 hb (b := w.heap.size) (o := 0) (v := .int .i64 a1) (by simp (maxDischargeDepth := 12) [go_sem, le1, lt1, *])
  have k1_1 := keep1 hb (b := w.heap.size) (o := 1) (v := .int .i64 a2) (by simp (maxDischargeDepth := 12) [go_sem, le1, lt1, *])
  have k1_2 := keep1 hb (b := w.heap.size + 1) (o := 0) (v := .int .i64 b1) (by simp (maxDischargeDepth := 12) [go_sem, le1, lt1, *])
  have k1_3 := keep1 hb (b := w.heap.size + 1) (o := 1) (v := .int .i64 b2) (by simp (maxDischargeDepth := 12) [go_sem, le1, lt1, *])
  have k1_4 := keep1 hb (b := w.heap.size + 1 + 1) (o := 0) (v := .int .i64 c1) (by simp (maxDischargeDepth := 12) [go_sem, le1, lt1, *])
  have k1_5 := keep1 hb (b := w.heap.size + 1 + 1) (o := 1) (v := .int .i64 c2) (by simp (maxDischargeDepth := 12) [go_sem, le1, lt1, *])
  have k1_6 := keep1 hb (b := w.heap.size + 1 + 1 + 1) (o := 0) (v := .int .i64 d1) (by simp (maxDischargeDepth := 12) [go_sem, le1, lt1, *])
  have k1_7 := keep1 hb (b := w.heap.size + 1 + 1 + 1) (o := 1) (v := .int .i64 d2) (by simp (maxDischargeDepth := 12) [go_sem, le1, lt1, *])
  have HB1 := hide hb
  clear hb
  have lak1_0 := cell_lt k1_0
  have lbk1_0 := Nat.le_of_lt lak1_0
  have lck1_0 := lt1 (k := 1) lak1_0
  have ldk1_0 := lt1 (k := 1) lck1_0
  have lek1_0 := lt1 (k := 1) ldk1_0
  have lak1_2 := cell_lt k1_2
  have lbk1_2 := Nat.le_of_lt lak1_2
  have lck1_2 := lt1 (k := 1) lak1_2
  have ldk1_2 := lt1 (k := 1) lck1_2
  have lek1_2 := lt1 (k := 1) ldk1_2
  have lak1_4 := cell_lt k1_4
  have lbk1_4 := Nat.le_of_lt lak1_4
  have lck1_4 := lt1 (k := 1) lak1_4
  have ldk1_4 := lt1 (k := 1) lck1_4
  have lek1_4 := lt1 (k := 1) ldk1_4
  have lak1_6 := cell_lt k1_6
  have lbk1_6 := Nat.le_of_lt lak1_6
  have lck1_6 := lt1 (k := 1) lak1_6
  have ldk1_6 := lt1 (k := 1) lck1_6
  have lek1_6 := lt1 (k := 1) ldk1_6
  go_wp2_with fail
  refine (unhide L2 _).mono ?_
  rintro e W2 ⟨rfl, hb⟩
  have k2_0 := keep1 hb (b := w.heap.size) (o := 0) (v := .int .i64 a1) (by simp (maxDischargeDepth := 12) [go_sem, le1, lt1, *])
  have k2_1 := keep1 hb (b := w.heap.size) (o := 1) (v := .int .i64 a2) (by simp (maxDischargeDepth := 12) [go_sem, le1, lt1, *])
  have k2_2 := keep1 hb (b := w.heap.size + 1) (o := 0) (v := .int .i64 b1) (by simp (maxDischargeDepth := 12) [go_sem, le1, lt1, *])
  have k2_3 := keep1 hb (b := w.heap.size + 1) (o := 1) (v := .int .i64 b2) (by simp (maxDischargeDepth := 12) [go_sem, le1, lt1, *])
  have k2_4 := keep1 hb (b := w.heap.size + 1 + 1) (o := 0) (v := .int .i64 c1) (by simp (maxDischargeDepth := 12) [go_sem, le1, lt1, *])
  have k2_5 := keep1 hb (b := w.heap.size + 1 + 1) (o := 1) (v := .int .i64 c2) (by simp (maxDischargeDepth := 12) [go_sem, le1, lt1, *])
  have k2_6 := keep1 hb (b := w.heap.size + 1 + 1 + 1) (o := 0) (v := .int .i64 d1) (by simp (maxDischargeDepth := 12) [go_sem, le1, lt1, *])
  have k2_7 := keep1 hb (b := w.heap.size + 1 + 1 + 1) (o := 1) (v := .int .i64 d2) (by simp (maxDischargeDepth := 12) [go_sem, le1, lt1, *])
  have HB2 := hide hb
  clear hb
  clear k1_0 k1_1 k1_2 k1_3 k1_4 k1_5 k1_6 k1_7 lak1_0 lbk1_0 lck1_0 ldk1_0 lek1_0 lak1_2 lbk1_2 lck1_2 ldk1_2 lek1_2 lak1_4 lbk1_4 lck1_4 ldk1_4 lek1_4 lak1_6 lbk1_6 lck1_6 ldk1_6 lek1_6
  have lak2_0 := cell_lt k2_0
  have lbk2_0 := Nat.le_of_lt lak2_0
  have lck2_0 := lt1 (k := 1) lak2_0
  have ldk2_0 := lt1 (k := 1) lck2_0
  have lek2_0 := lt1 (k := 1) ldk2_0
  have lak2_2 := cell_lt k2_2
  have lbk2_2 := Nat.le_of_lt lak2_2
  have lck2_2 := lt1 (k := 1) lak2_2
  have ldk2_2 := lt1 (k := 1) lck2_2
  have lek2_2 := lt1 (k := 1) ldk2_2
  have lak2_4 := cell_lt k2_4
  have lbk2_4 := Nat.le_of_lt lak2_4
  have lck2_4 := lt1 (k := 1) lak2_4
  have ldk2_4 := lt1 (k := 1) lck2_4
  have lek2_4 := lt1 (k := 1) ldk2_4
  have lak2_6 := cell_lt k2_6
  have lbk2_6 := Nat.le_of_lt lak2_6
  have lck2_6 := lt1 (k := 1) lak2_6
  have ldk2_6 := lt1 (k := 1) lck2_6
  have lek2_6 := lt1 (k := 1) ldk2_6
  go_wp2_with fail
  refine (unhide LC _).mono ?_
  rintro e W9 ⟨⟨v, rfl, hv⟩, hq⟩
  have HQ := hide hq
  have HV := hide hv
  clear hq hv
  have E1 := hide (bc (bc (ba (ba (ba (ba (Below.refl w.heap.size w) _) _) _) _) (unhide HB1)) (unhide HB2))
  go_wp2_with fail
  go_ret
  exact ⟨⟨_, rfl, (unhide HV).mono (unhide E1).size⟩, bc (unhide E1) (unhide HQ)⟩

theorem less_any (a b : Pt) (t : Bool) (h : ltp a b = t) : Hid (∀ W, Calls Try.prog 91 #[ptv a, ptv b] W fun e w' => e = .returned (.bool t) ∧ Below W.heap.size W w') :=
  hide fun W => h ▸ less_ints a.1 a.2 b.1 b.2 W
theorem on_any (a b p : Pt) (h : onB a b p = true) : Hid (∀ W, Calls Try.prog 79 #[ptv a, ptv b, ptv p] W fun e w' => e = .returned (.bool true) ∧ Below W.heap.size W w') :=
  hide fun W => h ▸ on_ints a.1 a.2 b.1 b.2 p.1 p.2 W
theorem pt_ne {f t : Pt} (h : f ≠ t) : (f.1 == t.1) = false ∨ (f.1 == t.1) = true ∧ (f.2 == t.2) = false := by
  by_cases h1 : f.1 = t.1
  · by_cases h2 : f.2 = t.2
    · exact absurd (Prod.ext h1 h2) h
    · exact .inr ⟨by simp [h1], by simp [h2]⟩
  · exact .inl (by simp [h1])
/-- the model's way along one line where the ends stand in their order -/
theorem meetM_any (a b c d : Pt) (w : World) (hba : ltp b a = false) (hdc : ltp d c = false) (hs : side a b c = 0) (hu : side c d a = 0) :
    Calls Try.prog 77 #[ptv a, ptv b, ptv c, ptv d] w fun e w' => (∃ v, e = .returned v ∧ IsSpots w.heap.size w' v (meet a b c d)) ∧ Below w.heap.size w w' := by
  unfold meet
  simp only
  by_cases hac : ltp a c = true
  · rw [if_pos hac]
    by_cases hdb : ltp d b = true
    · rw [if_pos hdb]
      by_cases hf : c = d
      · rw [if_pos hf]
        have o1 : onB a b c = true := on_of _ _ _ hs (ltp_asymm _ _ hac) (by rw [hf]; exact ltp_asymm _ _ hdb)
        have o2 : onB c d c = true := on_l _ _
        refine (alongM_eq_cd a.1 a.2 b.1 b.2 c.1 c.2 d.1 d.2 w (less_any b a _ hba) (less_any d c _ hdc) (less_any a c _ hac) (less_any d b _ hdb) (by simp [hf]) (by simp [hf]) (on_any a b c o1) (on_any c d c o2)).mono ?_
        rintro e w' ⟨⟨k, rfl, hk, hc⟩, hb⟩
        exact ⟨⟨_, rfl, .inr ⟨k, 1, rfl, hk, hc⟩⟩, hb⟩
      · rw [if_neg hf]
        by_cases hl : ltp c d = true
        · rw [if_pos hl]
          refine (alongM_lt_cd a.1 a.2 b.1 b.2 c.1 c.2 d.1 d.2 w (less_any b a _ hba) (less_any d c _ hdc) (less_any a c _ hac) (less_any d b _ hdb) (pt_ne hf) (less_any c d _ hl)).mono ?_
          rintro e w' ⟨⟨k, rfl, hk, hc⟩, hb⟩
          exact ⟨⟨_, rfl, .inr ⟨k, 2, rfl, hk, hc⟩⟩, hb⟩
        · rw [if_neg hl]
          have hl' : ltp c d = false := by simpa using hl
          refine (alongM_gt_cd a.1 a.2 b.1 b.2 c.1 c.2 d.1 d.2 w (less_any b a _ hba) (less_any d c _ hdc) (less_any a c _ hac) (less_any d b _ hdb) (pt_ne hf) (less_any c d _ hl')).mono ?_
          rintro e w' ⟨⟨k, rfl, hk, hc⟩, hb⟩
          exact ⟨⟨_, rfl, .inr ⟨k, 0, rfl, hk, hc⟩⟩, hb⟩
    · rw [if_neg hdb]
      have hdb : ltp d b = false := by simpa using hdb
      by_cases hf : c = b
      · rw [if_pos hf]
        have o1 : onB a b c = true := by rw [hf]; exact on_r _ _
        have o2 : onB c d c = true := on_l _ _
        refine (alongM_eq_cb a.1 a.2 b.1 b.2 c.1 c.2 d.1 d.2 w (less_any b a _ hba) (less_any d c _ hdc) (less_any a c _ hac) (less_any d b _ hdb) (by simp [hf]) (by simp [hf]) (on_any a b c o1) (on_any c d c o2)).mono ?_
        rintro e w' ⟨⟨k, rfl, hk, hc⟩, hb⟩
        exact ⟨⟨_, rfl, .inr ⟨k, 1, rfl, hk, hc⟩⟩, hb⟩
      · rw [if_neg hf]
        by_cases hl : ltp c b = true
        · rw [if_pos hl]
          refine (alongM_lt_cb a.1 a.2 b.1 b.2 c.1 c.2 d.1 d.2 w (less_any b a _ hba) (less_any d c _ hdc) (less_any a c _ hac) (less_any d b _ hdb) (pt_ne hf) (less_any c b _ hl)).mono ?_
          rintro e w' ⟨⟨k, rfl, hk, hc⟩, hb⟩
          exact ⟨⟨_, rfl, .inr ⟨k, 2, rfl, hk, hc⟩⟩, hb⟩
        · rw [if_neg hl]
          have hl' : ltp c b = false := by simpa using hl
          refine (alongM_gt_cb a.1 a.2 b.1 b.2 c.1 c.2 d.1 d.2 w (less_any b a _ hba) (less_any d c _ hdc) (less_any a c _ hac) (less_any d b _ hdb) (pt_ne hf) (less_any c b _ hl')).mono ?_
          rintro e w' ⟨⟨k, rfl, hk, hc⟩, hb⟩
          exact ⟨⟨_, rfl, .inr ⟨k, 0, rfl, hk, hc⟩⟩, hb⟩
  · rw [if_neg hac]
    have hac : ltp a c = false := by simpa using hac
    by_cases hdb : ltp d b = true
    · rw [if_pos hdb]
      by_cases hf : a = d
      · rw [if_pos hf]
        have o1 : onB a b a = true := on_l _ _
        have o2 : onB c d a = true := by rw [hf]; exact on_r _ _
        refine (alongM_eq_ad a.1 a.2 b.1 b.2 c.1 c.2 d.1 d.2 w (less_any b a _ hba) (less_any d c _ hdc) (less_any a c _ hac) (less_any d b _ hdb) (by simp [hf]) (by simp [hf]) (on_any a b a o1) (on_any c d a o2)).mono ?_
        rintro e w' ⟨⟨k, rfl, hk, hc⟩, hb⟩
        exact ⟨⟨_, rfl, .inr ⟨k, 1, rfl, hk, hc⟩⟩, hb⟩
      · rw [if_neg hf]
        by_cases hl : ltp a d = true
        · rw [if_pos hl]
          refine (alongM_lt_ad a.1 a.2 b.1 b.2 c.1 c.2 d.1 d.2 w (less_any b a _ hba) (less_any d c _ hdc) (less_any a c _ hac) (less_any d b _ hdb) (pt_ne hf) (less_any a d _ hl)).mono ?_
          rintro e w' ⟨⟨k, rfl, hk, hc⟩, hb⟩
          exact ⟨⟨_, rfl, .inr ⟨k, 2, rfl, hk, hc⟩⟩, hb⟩
        · rw [if_neg hl]
          have hl' : ltp a d = false := by simpa using hl
          refine (alongM_gt_ad a.1 a.2 b.1 b.2 c.1 c.2 d.1 d.2 w (less_any b a _ hba) (less_any d c _ hdc) (less_any a c _ hac) (less_any d b _ hdb) (pt_ne hf) (less_any a d _ hl')).mono ?_
          rintro e w' ⟨⟨k, rfl, hk, hc⟩, hb⟩
          exact ⟨⟨_, rfl, .inr ⟨k, 0, rfl, hk, hc⟩⟩, hb⟩
    · rw [if_neg hdb]
      have hdb : ltp d b = false := by simpa using hdb
      by_cases hf : a = b
      · rw [if_pos hf]
        have o1 : onB a b a = true := on_l _ _
        have o2 : onB c d a = true := on_of _ _ _ hu hac (by rw [hf]; exact hdb)
        refine (alongM_eq_ab a.1 a.2 b.1 b.2 c.1 c.2 d.1 d.2 w (less_any b a _ hba) (less_any d c _ hdc) (less_any a c _ hac) (less_any d b _ hdb) (by simp [hf]) (by simp [hf]) (on_any a b a o1) (on_any c d a o2)).mono ?_
        rintro e w' ⟨⟨k, rfl, hk, hc⟩, hb⟩
        exact ⟨⟨_, rfl, .inr ⟨k, 1, rfl, hk, hc⟩⟩, hb⟩
      · rw [if_neg hf]
        by_cases hl : ltp a b = true
        · rw [if_pos hl]
          refine (alongM_lt_ab a.1 a.2 b.1 b.2 c.1 c.2 d.1 d.2 w (less_any b a _ hba) (less_any d c _ hdc) (less_any a c _ hac) (less_any d b _ hdb) (pt_ne hf) (less_any a b _ hl)).mono ?_
          rintro e w' ⟨⟨k, rfl, hk, hc⟩, hb⟩
          exact ⟨⟨_, rfl, .inr ⟨k, 2, rfl, hk, hc⟩⟩, hb⟩
        · rw [if_neg hl]
          have hl' : ltp a b = false := by simpa using hl
          refine (alongM_gt_ab a.1 a.2 b.1 b.2 c.1 c.2 d.1 d.2 w (less_any b a _ hba) (less_any d c _ hdc) (less_any a c _ hac) (less_any d b _ hdb) (pt_ne hf) (less_any a b _ hl')).mono ?_
          rintro e w' ⟨⟨k, rfl, hk, hc⟩, hb⟩
          exact ⟨⟨_, rfl, .inr ⟨k, 0, rfl, hk, hc⟩⟩, hb⟩
theorem alongM_any (a b c d : Pt) (w : World) (hs : side a b c = 0) (ht : side a b d = 0) (hu : side c d a = 0) (hv : side c d b = 0) :
    Calls Try.prog 77 #[ptv a, ptv b, ptv c, ptv d] w fun e w' => (∃ v, e = .returned v ∧ IsSpots w.heap.size w' v (along a b c d)) ∧ Below w.heap.size w w' := by
  unfold along
  have s1 := side_swap a b c
  have s2 := side_swap a b d
  have s3 := side_swap c d a
  have s4 := side_swap c d b
  have key : ∀ (a b : Pt) (W : World), ltp b a = false → side a b c = 0 → side a b d = 0 → side c d a = 0 → Calls Try.prog 77 #[ptv a, ptv b, ptv c, ptv d] W fun e w' => (∃ v, e = .returned v ∧ IsSpots W.heap.size w' v (meet a b (if ltp d c = true then d else c) (if ltp d c = true then c else d))) ∧ Below W.heap.size W w' := by
    intro a b W hba h1 h2 h3
    have s3' := side_swap c d a
    cases hdc : ltp d c
    · exact meetM_any a b c d W hba hdc h1 h3
    · exact alongM_swap2 a.1 a.2 b.1 b.2 c.1 c.2 d.1 d.2 _ W (less_any b a _ hba) (less_any d c _ hdc) (hide fun W => meetM_any a b d c W hba (ltp_asymm _ _ hdc) h2 (by omega))
  cases hba : ltp b a
  · exact key a b w hba hs ht hu
  · exact alongM_swap1 a.1 a.2 b.1 b.2 c.1 c.2 d.1 d.2 _ w (less_any b a _ hba) (hide fun W => key b a W (ltp_asymm _ _ hba) (by omega) (by omega) hv)
end Go.Proofs.Ytimkinpbimangaa
