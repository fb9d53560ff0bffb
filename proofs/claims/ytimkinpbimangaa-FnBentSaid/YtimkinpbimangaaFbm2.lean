/-
  What two segments of one line have in common, as the model finds it, however their ends stand. What two segments have in common, as the model finds it. What two segments have in common, as the model finds it: at all right points. The model's strip: its corners, and the panel that meets one ahead of it. The model's Bent at every argument. The program's FlatLength at every argument. A statement of the model's FlatLength that draws its order, walked alone. The model's FlatLength at every argument. The law on strips, whole. A drawn strip: the program's corners are the model's, as far apart as the panels are long, and flattened they give the panels and bends again; where it meets itself its beginning does not; without angles its flat length is the panels together, with angles it is not less: whatever the two codes.
-/
import Derived.Test.YtimkinpbimangaaFbm1
import Derived.Test.YtimkinpbimangaaCommonP
import Derived.Test.YtimkinpbimangaaBnP
import Derived.Test.YtimkinpbimangaaFlMath
import Derived.Test.YtimkinpbimangaaInv2
import Derived.Test.YtimkinpbimangaaVb
import Derived.Test.YtimkinpbimangaaFbH
import Derived.Test.YtimkinpbimangaaFbMath
import Derived.Test.YtimkinpbimangaaChecked
import Derived.Test.YtimkinpbimangaaRows
import Derived.ShutString
import Derived.ChangeOld
namespace Go.Proofs.Ytimkinpbimangaa
open Go.ChangeShapes Go.WideShapes Go.ChangeAt Go.RowKit
set_option linter.unusedVariables false
set_option linter.unusedSimpArgs false

set_option maxRecDepth 100000 in
set_option maxHeartbeats 1000000 in
theorem alongM_swap1 (a1 a2 b1 b2 c1 c2 d1 d2 : Int) (L : List Sp) (w : World)
    (L1 : Hid (∀ W, Calls Try.prog 91 #[.agg #[.int .i64 b1, .int .i64 b2], .agg #[.int .i64 a1, .int .i64 a2]] W fun e w' => e = .returned (.bool true) ∧ Below W.heap.size W w'))
    (LC : Hid (∀ W, Calls Try.prog 77 #[.agg #[.int .i64 b1, .int .i64 b2], .agg #[.int .i64 a1, .int .i64 a2], .agg #[.int .i64 c1, .int .i64 c2], .agg #[.int .i64 d1, .int .i64 d2]] W fun e w' => (∃ v, e = .returned v ∧ IsSpots W.heap.size w' v L) ∧ Below W.heap.size W w')) :
    Calls Try.prog 77 #[.agg #[.int .i64 a1, .int .i64 a2], .agg #[.int .i64 b1, .int .i64 b2], .agg #[.int .i64 c1, .int .i64 c2], .agg #[.int .i64 d1, .int .i64 d2]] w fun e w' => (∃ v, e = .returned v ∧ IsSpots w.heap.size w' v L) ∧ Below w.heap.size w w' := by
  go_enter Try.func77, Try.ntmps77
  go_wp2_with fail
  refine (unhide L1 _).mono ?_
  rintro e W1 ⟨rfl, hb⟩
  have k1_0 := keep1 hb (b := w.heap.size) (o := 0) (v := .int .i64 a1) (by simp (maxDischargeDepth := 12) [go_sem, le1, lt1, *])
  have k1_1 := keep1 hb (b := w.heap.size) (o := 1) (v := .int .i64 a2) (by simp (maxDischargeDepth := 12) [go_sem, le1, lt1, *])
  have k1_2 := keep1 hb (b := w.heap.size + 1) (o := 0) (v := .int .i64 b1) (by simp (maxDischargeDepth := 12) [go_sem, le1, lt1, *])
  have k1_3 := keep1 hb (b := w.heap.size + 1) (o := 1) (v := .int .i64 b2) (by simp (maxDischargeDepth := 12) [go_sem, le1, lt1, *])
  have k1_4 := keep1 hb (b := w.heap.size + 1 + 1) (o := 0) (v := .int .i64 c1) (by simp (maxDischargeDepth := 12) [go_sem, le1, lt1, *])
  have k1_5 := keep1 hb (b := w.heap.size + 1 + 1) (o := 1) (v := .int .i64 c2) (by simp (maxDischargeDepth := 12) [go_sem, le1, lt1, *])
  have k1_6 := keep1 hb (b := w.heap.size + 1 + 1 + 1) (o := 0) (v := .int .i64 d1) (by simp (maxDischargeDepth := 12) [go_sem, le1, lt1, *])
  have k1_7 := keep1 hb (b := w.heap.size + 1 + 1 + 1) (o := 1) (v := .int .i64 d2) (by simp (maxDischargeDepth := 12) [go_sem, le1, lt1, *])
  have HB1 := hide hb
  clear hb
  have lak1_0 := cell_lt k1_0
  have lbk1_0 := Nat.le_of_lt lak1_0
  have lck1_0 := lt1 (k := 1) lak1_0
  have ldk1_0 := lt1 (k := 1) lck1_0
  have lek1_0 := lt1 (k := 1) ldk1_0
  have lak1_2 := cell_lt k1_2
  have lbk1_2 := Nat.le_of_lt lak1_2
  have lck1_2 := lt1 (k := 1) lak1_2
  have ldk1_2 := lt1 (k := 1) lck1_2
  have lek1_2 := lt1 (k := 1) ldk1_2
  have lak1_4 := cell_lt k1_4
  have lbk1_4 := Nat.le_of_lt lak1_4
  have lck1_4 := lt1 (k := 1) lak1_4
  have ldk1_4 := lt1 (k := 1) lck1_4
  have lek1_4 := lt1 (k := 1) ldk1_4
  have lak1_6 := cell_lt k1_6
  have lbk1_6 := Nat.le_of_lt lak1_6
  have lck1_6 := lt1 (k := 1) lak1_6
  have ldk1_6 := lt1 (k := 1) lck1_6
  have lek1_6 := lt1 (k := 1) ldk1_6
  go_wp2_with fail
  refine (unhide LC _).mono ?_
  rintro e W9 ⟨⟨v, rfl, hv⟩, hq⟩
  have HQ := hide hq
  have HV := hide hv
  clear hq hv
  have E1 := hide (bc (ba (ba (ba (ba (Below.refl w.heap.size w) _) _) _) _) (unhide HB1))
  go_wp2_with fail
  go_ret
  exact ⟨⟨_, rfl, (unhide HV).mono (unhide E1).size⟩, bc (unhide E1) (unhide HQ)⟩

set_option maxRecDepth 100000 in
set_option maxHeartbeats 1000000 in
theorem alongM_swap2 (a1 a2 b1 b2 c1 c2 d1 d2 : Int) (L : List Sp) (w : World)
    (L1 : Hid (∀ W, Calls Try.prog 91 #[.agg #[.int .i64 b1, .int .i64 b2], .agg #[.int .i64 a1, .int .i64 a2]] W fun e w' => e = .returned (.bool false) ∧ Below W.heap.size W w'))
    (L2 : Hid (∀ W, Calls Try.prog 91 #[.agg #[.int .i64 d1, .int .i64 d2], .agg #[.int .i64 c1, .int .i64 c2]] W fun e w' => e = .returned (.bool true) ∧ Below W.heap.size W w'))
    (LC : Hid (∀ W, Calls Try.prog 77 #[.agg #[.int .i64 a1, .int .i64 a2], .agg #[.int .i64 b1, .int .i64 b2], .agg #[.int .i64 d1, .int .i64 d2], .agg #[.int .i64 c1, .int .i64 c2]] W fun e w' => (∃ v, e = .returned v ∧ IsSpots W.heap.size w' v L) ∧ Below W.heap.size W w')) :
    Calls Try.prog 77 #[.agg #[.int .i64 a1, .int .i64 a2], .agg #[.int .i64 b1, .int .i64 b2], .agg #[.int .i64 c1, .int .i64 c2], .agg #[.int .i64 d1, .int .i64 d2]] w fun e w' => (∃ v, e = .returned v ∧ IsSpots w.heap.size w' v L) ∧ Below w.heap.size w w' := by
  go_enter Try.func77, Try.ntmps77
  go_wp2_with fail
  refine (unhide L1 _).mono ?_
  rintro e W1 ⟨rfl, hb⟩
  have k1_0 := keep1 hb (b := w.heap.size) (o := 0) (v := .int .i64 a1) (by simp (maxDischargeDepth := 12) [go_sem, le1, lt1, *])
  have k1_1 := keep1 hb (b := w.heap.size) (o := 1) (v := .int .i64 a2) (by simp (maxDischargeDepth := 12) [go_sem, le1, lt1, *])
  have k1_2 := keep1 hb (b := w.heap.size + 1) (o := 0) (v := .int .i64 b1) (by simp (maxDischargeDepth := 12) [go_sem, le1, lt1, *])
  have k1_3 := keep1 hb (b := w.heap.size + 1) (o := 1) (v := .int .i64 b2) (by simp (maxDischargeDepth := 12) [go_sem, le1, lt1, *])
  have k1_4 := keep1 hb (b := w.heap.size + 1 + 1) (o := 0) (v := .int .i64 c1) (by simp (maxDischargeDepth := 12) [go_sem, le1, lt1, *])
  have k1_5 := keep1 hb (b := w.heap.size + 1 + 1) (o := 1) (v := .int .i64 c2) (by simp (maxDischargeDepth := 12) [go_sem, le1, lt1, *])
  have k1_6 := keep1 hb (b := w.heap.size + 1 + 1 + 1) (o := 0) (v := .int .i64 d1) (by simp (maxDischargeDepth := 12) [go_sem, le1, lt1, *])
  have k1_7 := keep1 hb (b := w.heap.size + 1 + 1 + 1) (o := 1) (v := .int .i64 d2) (by simp (maxDischargeDepth := 12) [go_sem, le1, lt1, *])
  have HB1 := hide hb
  clear hb
  have lak1_0 := cell_lt k1_0
  have lbk1_0 := Nat.le_of_lt lak1_0
  have lck1_0 := lt1 (k := 1) lak1_0
  have ldk1_0 := lt1 (k := 1) lck1_0
  have lek1_0 := lt1 (k := 1) ldk1_0
  have lak1_2 := cell_lt k1_2
  have lbk1_2 := Nat.le_of_lt lak1_2
  have lck1_2 := lt1 (k := 1) lak1_2
  have ldk1_2 := lt1 (k := 1) lck1_2
  have lek1_2 := lt1 (k := 1) ldk1_2
  have lak1_4 := cell_lt k1_4
  have lbk1_4 := Nat.le_of_lt lak1_4
  have lck1_4 := lt1 (k := 1) lak1_4
  have ldk1_4 := lt1 (k := 1) lck1_4
  have lek1_4 := lt1 (k := 1) ldk1_4
  have lak1_6 := cell_lt k1_6
  have lbk1_6 := Nat.le_of_lt lak1_6
  have lck1_6 := lt1 (k := 1) lak1_6
  have ldk1_6 := lt1 (k := 1) lck1_6
  have lek1_6 := lt1 (k := 1) ldk1_6
  go_wp2_with fail
  refine (unhide L2 _).mono ?_
  rintro e W2 ⟨rfl, hb⟩
  have k2_0 := keep1 hb (b := w.heap.size) (o := 0) (v := .int .i64 a1) (by simp (maxDischargeDepth := 12) [go_sem, le1, lt1, *])
  have k2_1 := keep1 hb (b := w.heap.size) (o := 1) (v := .int .i64 a2) (by simp (maxDischargeDepth := 12) [go_sem, le1, lt1, *])
  have k2_2 := keep1 hb (b := w.heap.size + 1) (o := 0) (v := .int .i64 b1) (by simp (maxDischargeDepth := 12) [go_sem, le1, lt1, *])
  have k2_3 := keep1 hb (b := w.heap.size + 1) (o := 1) (v := .int .i64 b2) (by simp (maxDischargeDepth := 12) [go_sem, le1, lt1, *])
  have k2_4 := keep1 hb (b := w.heap.size + 1 + 1) (o := 0) (v := .int .i64 c1) (by simp (maxDischargeDepth := 12) [go_sem, le1, lt1, *])
  have k2_5 := keep1 hb (b := w.heap.size + 1 + 1) (o := 1) (v := .int .i64 c2) (by simp (maxDischargeDepth := 12) [go_sem, le1, lt1, *])
  have k2_6 := keep1 hb (b := w.heap.size + 1 + 1 + 1) (o := 0) (v := .int .i64 d1) (by simp (maxDischargeDepth := 12) [go_sem, le1, lt1, *])
  have k2_7 := keep1 hb (b := w.heap.size + 1 + 1 + 1) (o := 1) (v := .int .i64 d2) (by simp (maxDischargeDepth := 12) [go_sem, le1, lt1, *])
  have HB2 := hide hb
  clear hb
  clear k1_0 k1_1 k1_2 k1_3 k1_4 k1_5 k1_6 k1_7 lak1_0 lbk1_0 lck1_0 ldk1_0 lek1_0 lak1_2 lbk1_2 lck1_2 ldk1_2 lek1_2 lak1_4 lbk1_4 lck1_4 ldk1_4 lek1_4 lak1_6 lbk1_6 lck1_6 ldk1_6 lek1_6
  have lak2_0 := cell_lt k2_0
  have lbk2_0 := Nat.le_of_lt lak2_0
  have lck2_0 := lt1 (k := 1) lak2_0
  have ldk2_0 := lt1 (k := 1) lck2_0
  have lek2_0 := lt1 (k := 1) ldk2_0
  have lak2_2 := cell_lt k2_2
  have lbk2_2 := Nat.le_of_lt lak2_2
  have lck2_2 := lt1 (k := 1) lak2_2
  have ldk2_2 := lt1 (k := 1) lck2_2
  have lek2_2 := lt1 (k := 1) ldk2_2
  have lak2_4 := cell_lt k2_4
  have lbk2_4 := Nat.le_of_lt lak2_4
  have lck2_4 := lt1 (k := 1) lak2_4
  have ldk2_4 := lt1 (k := 1) lck2_4
  have lek2_4 := lt1 (k := 1) ldk2_4
  have lak2_6 := cell_lt k2_6
  have lbk2_6 := Nat.le_of_lt lak2_6
  have lck2_6 := lt1 (k := 1) lak2_6
  have ldk2_6 := lt1 (k := 1) lck2_6
  have lek2_6 := lt1 (k := 1) ldk2_6
  go_wp2_with fail
  refine (unhide LC _).mono ?_
  rintro e W9 ⟨⟨v, rfl, hv⟩, hq⟩
  have HQ := hide hq
  have HV := hide hv
  clear hq hv
  have E1 := hide (bc (bc (ba (ba (ba (ba (Below.refl w.heap.size w) _) _) _) _) (unhide HB1)) (unhide HB2))
  go_wp2_with fail
  go_ret
  exact ⟨⟨_, rfl, (unhide HV).mono (unhide E1).size⟩, bc (unhide E1) (unhide HQ)⟩

theorem less_any (a b : Pt) (t : Bool) (h : ltp a b = t) : Hid (∀ W, Calls Try.prog 91 #[ptv a, ptv b] W fun e w' => e = .returned (.bool t) ∧ Below W.heap.size W w') :=
  hide fun W => h ▸ less_ints a.1 a.2 b.1 b.2 W
theorem on_any (a b p : Pt) (h : onB a b p = true) : Hid (∀ W, Calls Try.prog 79 #[ptv a, ptv b, ptv p] W fun e w' => e = .returned (.bool true) ∧ Below W.heap.size W w') :=
  hide fun W => h ▸ on_ints a.1 a.2 b.1 b.2 p.1 p.2 W
theorem pt_ne {f t : Pt} (h : f ≠ t) : (f.1 == t.1) = false ∨ (f.1 == t.1) = true ∧ (f.2 == t.2) = false := by
  by_cases h1 : f.1 = t.1
  · by_cases h2 : f.2 = t.2
    · exact absurd (Prod.ext h1 h2) h
    · exact .inr ⟨by simp [h1], by simp [h2]⟩
  · exact .inl (by simp [h1])
/-- the model's way along one line where the ends stand in their order -/
theorem meetM_any (a b c d : Pt) (w : World) (hba : ltp b a = false) (hdc : ltp d c = false) (hs : side a b c = 0) (hu : side c d a = 0) :
    Calls Try.prog 77 #[ptv a, ptv b, ptv c, ptv d] w fun e w' => (∃ v, e = .returned v ∧ IsSpots w.heap.size w' v (meet a b c d)) ∧ Below w.heap.size w w' := by
  unfold meet
  simp only
  by_cases hac : ltp a c = true
  · rw [if_pos hac]
    by_cases hdb : ltp d b = true
    · rw [if_pos hdb]
      by_cases hf : c = d
      · rw [if_pos hf]
        have o1 : onB a b c = true := on_of _ _ _ hs (ltp_asymm _ _ hac) (by rw [hf]; exact ltp_asymm _ _ hdb)
        have o2 : onB c d c = true := on_l _ _
        refine (alongM_eq_cd a.1 a.2 b.1 b.2 c.1 c.2 d.1 d.2 w (less_any b a _ hba) (less_any d c _ hdc) (less_any a c _ hac) (less_any d b _ hdb) (by simp [hf]) (by simp [hf]) (on_any a b c o1) (on_any c d c o2)).mono ?_
        rintro e w' ⟨⟨k, rfl, hk, hc⟩, hb⟩
        exact ⟨⟨_, rfl, .inr ⟨k, 1, rfl, hk, hc⟩⟩, hb⟩
      · rw [if_neg hf]
        by_cases hl : ltp c d = true
        · rw [if_pos hl]
          refine (alongM_lt_cd a.1 a.2 b.1 b.2 c.1 c.2 d.1 d.2 w (less_any b a _ hba) (less_any d c _ hdc) (less_any a c _ hac) (less_any d b _ hdb) (pt_ne hf) (less_any c d _ hl)).mono ?_
          rintro e w' ⟨⟨k, rfl, hk, hc⟩, hb⟩
          exact ⟨⟨_, rfl, .inr ⟨k, 2, rfl, hk, hc⟩⟩, hb⟩
        · rw [if_neg hl]
          have hl' : ltp c d = false := by simpa using hl
          refine (alongM_gt_cd a.1 a.2 b.1 b.2 c.1 c.2 d.1 d.2 w (less_any b a _ hba) (less_any d c _ hdc) (less_any a c _ hac) (less_any d b _ hdb) (pt_ne hf) (less_any c d _ hl')).mono ?_
          rintro e w' ⟨⟨k, rfl, hk, hc⟩, hb⟩
          exact ⟨⟨_, rfl, .inr ⟨k, 0, rfl, hk, hc⟩⟩, hb⟩
    · rw [if_neg hdb]
      have hdb : ltp d b = false := by simpa using hdb
      by_cases hf : c = b
      · rw [if_pos hf]
        have o1 : onB a b c = true := by rw [hf]; exact on_r _ _
        have o2 : onB c d c = true := on_l _ _
        refine (alongM_eq_cb a.1 a.2 b.1 b.2 c.1 c.2 d.1 d.2 w (less_any b a _ hba) (less_any d c _ hdc) (less_any a c _ hac) (less_any d b _ hdb) (by simp [hf]) (by simp [hf]) (on_any a b c o1) (on_any c d c o2)).mono ?_
        rintro e w' ⟨⟨k, rfl, hk, hc⟩, hb⟩
        exact ⟨⟨_, rfl, .inr ⟨k, 1, rfl, hk, hc⟩⟩, hb⟩
      · rw [if_neg hf]
        by_cases hl : ltp c b = true
        · rw [if_pos hl]
          refine (alongM_lt_cb a.1 a.2 b.1 b.2 c.1 c.2 d.1 d.2 w (less_any b a _ hba) (less_any d c _ hdc) (less_any a c _ hac) (less_any d b _ hdb) (pt_ne hf) (less_any c b _ hl)).mono ?_
          rintro e w' ⟨⟨k, rfl, hk, hc⟩, hb⟩
          exact ⟨⟨_, rfl, .inr ⟨k, 2, rfl, hk, hc⟩⟩, hb⟩
        · rw [if_neg hl]
          have hl' : ltp c b = false := by simpa using hl
          refine (alongM_gt_cb a.1 a.2 b.1 b.2 c.1 c.2 d.1 d.2 w (less_any b a _ hba) (less_any d c _ hdc) (less_any a c _ hac) (less_any d b _ hdb) (pt_ne hf) (less_any c b _ hl')).mono ?_
          rintro e w' ⟨⟨k, rfl, hk, hc⟩, hb⟩
          exact ⟨⟨_, rfl, .inr ⟨k, 0, rfl, hk, hc⟩⟩, hb⟩
  · rw [if_neg hac]
    have hac : ltp a c = false := by simpa using hac
    by_cases hdb : ltp d b = true
    · rw [if_pos hdb]
      by_cases hf : a = d
      · rw [if_pos hf]
        have o1 : onB a b a = true := on_l _ _
        have o2 : onB c d a = true := by rw [hf]; exact on_r _ _
        refine (alongM_eq_ad a.1 a.2 b.1 b.2 c.1 c.2 d.1 d.2 w (less_any b a _ hba) (less_any d c _ hdc) (less_any a c _ hac) (less_any d b _ hdb) (by simp [hf]) (by simp [hf]) (on_any a b a o1) (on_any c d a o2)).mono ?_
        rintro e w' ⟨⟨k, rfl, hk, hc⟩, hb⟩
        exact ⟨⟨_, rfl, .inr ⟨k, 1, rfl, hk, hc⟩⟩, hb⟩
      · rw [if_neg hf]
        by_cases hl : ltp a d = true
        · rw [if_pos hl]
          refine (alongM_lt_ad a.1 a.2 b.1 b.2 c.1 c.2 d.1 d.2 w (less_any b a _ hba) (less_any d c _ hdc) (less_any a c _ hac) (less_any d b _ hdb) (pt_ne hf) (less_any a d _ hl)).mono ?_
          rintro e w' ⟨⟨k, rfl, hk, hc⟩, hb⟩
          exact ⟨⟨_, rfl, .inr ⟨k, 2, rfl, hk, hc⟩⟩, hb⟩
        · rw [if_neg hl]
          have hl' : ltp a d = false := by simpa using hl
          refine (alongM_gt_ad a.1 a.2 b.1 b.2 c.1 c.2 d.1 d.2 w (less_any b a _ hba) (less_any d c _ hdc) (less_any a c _ hac) (less_any d b _ hdb) (pt_ne hf) (less_any a d _ hl')).mono ?_
          rintro e w' ⟨⟨k, rfl, hk, hc⟩, hb⟩
          exact ⟨⟨_, rfl, .inr ⟨k, 0, rfl, hk, hc⟩⟩, hb⟩
    · rw [if_neg hdb]
      have hdb : ltp d b = false := by simpa using hdb
      by_cases hf : a = b
      · rw [if_pos hf]
        have o1 : onB a b a = true := on_l _ _
        have o2 : onB c d a = true := on_of _ _ _ hu hac (by rw [hf]; exact hdb)
        refine (alongM_eq_ab a.1 a.2 b.1 b.2 c.1 c.2 d.1 d.2 w (less_any b a _ hba) (less_any d c _ hdc) (less_any a c _ hac) (less_any d b _ hdb) (by simp [hf]) (by simp [hf]) (on_any a b a o1) (on_any c d a o2)).mono ?_
        rintro e w' ⟨⟨k, rfl, hk, hc⟩, hb⟩
        exact ⟨⟨_, rfl, .inr ⟨k, 1, rfl, hk, hc⟩⟩, hb⟩
      · rw [if_neg hf]
        by_cases hl : ltp a b = true
        · rw [if_pos hl]
          refine (alongM_lt_ab a.1 a.2 b.1 b.2 c.1 c.2 d.1 d.2 w (less_any b a _ hba) (less_any d c _ hdc) (less_any a c _ hac) (less_any d b _ hdb) (pt_ne hf) (less_any a b _ hl)).mono ?_
          rintro e w' ⟨⟨k, rfl, hk, hc⟩, hb⟩
          exact ⟨⟨_, rfl, .inr ⟨k, 2, rfl, hk, hc⟩⟩, hb⟩
        · rw [if_neg hl]
          have hl' : ltp a b = false := by simpa using hl
          refine (alongM_gt_ab a.1 a.2 b.1 b.2 c.1 c.2 d.1 d.2 w (less_any b a _ hba) (less_any d c _ hdc) (less_any a c _ hac) (less_any d b _ hdb) (pt_ne hf) (less_any a b _ hl')).mono ?_
          rintro e w' ⟨⟨k, rfl, hk, hc⟩, hb⟩
          exact ⟨⟨_, rfl, .inr ⟨k, 0, rfl, hk, hc⟩⟩, hb⟩
theorem alongM_any (a b c d : Pt) (w : World) (hs : side a b c = 0) (ht : side a b d = 0) (hu : side c d a = 0) (hv : side c d b = 0) :
    Calls Try.prog 77 #[ptv a, ptv b, ptv c, ptv d] w fun e w' => (∃ v, e = .returned v ∧ IsSpots w.heap.size w' v (along a b c d)) ∧ Below w.heap.size w w' := by
  unfold along
  have s1 := side_swap a b c
  have s2 := side_swap a b d
  have s3 := side_swap c d a
  have s4 := side_swap c d b
  have key : ∀ (a b : Pt) (W : World), ltp b a = false → side a b c = 0 → side a b d = 0 → side c d a = 0 → Calls Try.prog 77 #[ptv a, ptv b, ptv c, ptv d] W fun e w' => (∃ v, e = .returned v ∧ IsSpots W.heap.size w' v (meet a b (if ltp d c = true then d else c) (if ltp d c = true then c else d))) ∧ Below W.heap.size W w' := by
    intro a b W hba h1 h2 h3
    have s3' := side_swap c d a
    cases hdc : ltp d c
    · exact meetM_any a b c d W hba hdc h1 h3
    · exact alongM_swap2 a.1 a.2 b.1 b.2 c.1 c.2 d.1 d.2 _ W (less_any b a _ hba) (less_any d c _ hdc) (hide fun W => meetM_any a b d c W hba (ltp_asymm _ _ hdc) h2 (by omega))
  cases hba : ltp b a
  · exact key a b w hba hs ht hu
  · exact alongM_swap1 a.1 a.2 b.1 b.2 c.1 c.2 d.1 d.2 _ w (less_any b a _ hba) (hide fun W => key b a W (ltp_asymm _ _ hba) (by omega) (by omega) hv)
end Go.Proofs.Ytimkinpbimangaa

namespace Go.Proofs.Ytimkinpbimangaa
open Go.ChangeShapes Go.WideShapes Go.ChangeAt Go.RowKit
set_option linter.unusedVariables false
set_option linter.unusedSimpArgs false

set_option maxRecDepth 100000 in
set_option maxHeartbeats 4000000 in
theorem crossM_z (a1 a2 b1 b2 c1 c2 d1 d2 s t u v : Int) (w : World)
    (H1 : Hid (∀ W, Calls Try.prog 76 #[.agg #[.int .i64 a1, .int .i64 a2], .agg #[.int .i64 b1, .int .i64 b2], .agg #[.int .i64 c1, .int .i64 c2]] W fun e w' => e = .returned (.int .i64 s) ∧ Below W.heap.size W w'))
    (H2 : Hid (∀ W, Calls Try.prog 76 #[.agg #[.int .i64 a1, .int .i64 a2], .agg #[.int .i64 b1, .int .i64 b2], .agg #[.int .i64 d1, .int .i64 d2]] W fun e w' => e = .returned (.int .i64 t) ∧ Below W.heap.size W w'))
    (H3 : Hid (∀ W, Calls Try.prog 76 #[.agg #[.int .i64 c1, .int .i64 c2], .agg #[.int .i64 d1, .int .i64 d2], .agg #[.int .i64 a1, .int .i64 a2]] W fun e w' => e = .returned (.int .i64 u) ∧ Below W.heap.size W w'))
    (H4 : Hid (∀ W, Calls Try.prog 76 #[.agg #[.int .i64 c1, .int .i64 c2], .agg #[.int .i64 d1, .int .i64 d2], .agg #[.int .i64 b1, .int .i64 b2]] W fun e w' => e = .returned (.int .i64 v) ∧ Below W.heap.size W w'))
    (z1 : (s == 0) = true) (z2 : (t == 0) = true) (z3 : (u == 0) = true) (z4 : (v == 0) = true) (L : List Sp)
    (LC : Hid (∀ W, Calls Try.prog 77 #[.agg #[.int .i64 a1, .int .i64 a2], .agg #[.int .i64 b1, .int .i64 b2], .agg #[.int .i64 c1, .int .i64 c2], .agg #[.int .i64 d1, .int .i64 d2]] W fun e w' => (∃ v, e = .returned v ∧ IsSpots W.heap.size w' v L) ∧ Below W.heap.size W w'))
    :
    Calls Try.prog 61 #[.agg #[.int .i64 a1, .int .i64 a2], .agg #[.int .i64 b1, .int .i64 b2], .agg #[.int .i64 c1, .int .i64 c2], .agg #[.int .i64 d1, .int .i64 d2]] w fun e w' => (∃ v', e = .returned v' ∧ IsSpots w.heap.size w' v' L) ∧ Below w.heap.size w w' := by
  go_enter Try.func61, Try.ntmps61
  go_wp2_with fail
  refine (unhide H1 _).mono ?_
  rintro e W1 ⟨rfl, hb⟩
  have k1_0 := keep1 hb (b := w.heap.size) (o := 0) (v := .int .i64 a1) (by simp (maxDischargeDepth := 12) [go_sem, le1, lt1, *])
  have k1_1 := keep1 hb (b := w.heap.size) (o := 1) (v := .int .i64 a2) (by simp (maxDischargeDepth := 12) [go_sem, le1, lt1, *])
  have k1_2 := keep1 hb (b := w.heap.size + 1) (o := 0) (v := .int .i64 b1) (by simp (maxDischargeDepth := 12) [go_sem, le1, lt1, *])
  have k1_3 := keep1 hb (b := w.heap.size + 1) (o := 1) (v := .int .i64 b2) (by simp (maxDischargeDepth := 12) [go_sem, le1, lt1, *])
  have k1_4 := keep1 hb (b := w.heap.size + 1 + 1) (o := 0) (v := .int .i64 c1) (by simp (maxDischargeDepth := 12) [go_sem, le1, lt1, *])
  have k1_5 := keep1 hb (b := w.heap.size + 1 + 1) (o := 1) (v := .int .i64 c2) (by simp (maxDischargeDepth := 12) [go_sem, le1, lt1, *])
  have k1_6 := keep1 hb (b := w.heap.size + 1 + 1 + 1) (o := 0) (v := .int .i64 d1) (by simp (maxDischargeDepth := 12) [go_sem, le1, lt1, *])
  have k1_7 := keep1 hb (b := w.heap.size + 1 + 1 + 1) (o := 1) (v := .int .i64 d2) (by simp (maxDischargeDepth := 12) [go_sem, le1, lt1, *])
  have HB1 := hide hb
  clear hb
  have lak1_0 := cell_lt k1_0
  have lbk1_0 := Nat.le_of_lt lak1_0
  have lck1_0 := lt1 (k := 1) lak1_0
  have ldk1_0 := lt1 (k := 1) lck1_0
  have lek1_0 := lt1 (k := 1) ldk1_0
  have lak1_2 := cell_lt k1_2
  have lbk1_2 := Nat.le_of_lt lak1_2
  have lck1_2 := lt1 (k := 1) lak1_2
  have ldk1_2 := lt1 (k := 1) lck1_2
  have lek1_2 := lt1 (k := 1) ldk1_2
  have lak1_4 := cell_lt k1_4
  have lbk1_4 := Nat.le_of_lt lak1_4
  have lck1_4 := lt1 (k := 1) lak1_4
  have ldk1_4 := lt1 (k := 1) lck1_4
  have lek1_4 := lt1 (k := 1) ldk1_4
  have lak1_6 := cell_lt k1_6
  have lbk1_6 := Nat.le_of_lt lak1_6
  have lck1_6 := lt1 (k := 1) lak1_6
  have ldk1_6 := lt1 (k := 1) lck1_6
  have lek1_6 := lt1 (k := 1) ldk1_6
  go_wp2_with fail
  refine (unhide H2 _).mono ?_
  rintro e W2 ⟨rfl, hb⟩
  have k2_0 := keep1 hb (b := w.heap.size) (o := 0) (v := .int .i64 a1) (by simp (maxDischargeDepth := 12) [go_sem, le1, lt1, *])
  have k2_1 := keep1 hb (b := w.heap.size) (o := 1) (v := .int .i64 a2) (by simp (maxDischargeDepth := 12) [go_sem, le1, lt1, *])
  have k2_2 := keep1 hb (b := w.heap.size + 1) (o := 0) (v := .int .i64 b1) (by simp (maxDischargeDepth := 12) [go_sem, le1, lt1, *])
  have k2_3 := keep1 hb (b := w.heap.size + 1) (o := 1) (v := .int .i64 b2) (by simp (maxDischargeDepth := 12) [go_sem, le1, lt1, *])
  have k2_4 := keep1 hb (b := w.heap.size + 1 + 1) (o := 0) (v := .int .i64 c1) (by simp (maxDischargeDepth := 12) [go_sem, le1, lt1, *])
  have k2_5 := keep1 hb (b := w.heap.size + 1 + 1) (o := 1) (v := .int .i64 c2) (by simp (maxDischargeDepth := 12) [go_sem, le1, lt1, *])
  have k2_6 := keep1 hb (b := w.heap.size + 1 + 1 + 1) (o := 0) (v := .int .i64 d1) (by simp (maxDischargeDepth := 12) [go_sem, le1, lt1, *])
  have k2_7 := keep1 hb (b := w.heap.size + 1 + 1 + 1) (o := 1) (v := .int .i64 d2) (by simp (maxDischargeDepth := 12) [go_sem, le1, lt1, *])
  have HB2 := hide hb
  clear hb
  clear k1_0 k1_1 k1_2 k1_3 k1_4 k1_5 k1_6 k1_7 lak1_0 lbk1_0 lck1_0 ldk1_0 lek1_0 lak1_2 lbk1_2 lck1_2 ldk1_2 lek1_2 lak1_4 lbk1_4 lck1_4 ldk1_4 lek1_4 lak1_6 lbk1_6 lck1_6 ldk1_6 lek1_6
  have lak2_0 := cell_lt k2_0
  have lbk2_0 := Nat.le_of_lt lak2_0
  have lck2_0 := lt1 (k := 1) lak2_0
  have ldk2_0 := lt1 (k := 1) lck2_0
  have lek2_0 := lt1 (k := 1) ldk2_0
  have lak2_2 := cell_lt k2_2
  have lbk2_2 := Nat.le_of_lt lak2_2
  have lck2_2 := lt1 (k := 1) lak2_2
  have ldk2_2 := lt1 (k := 1) lck2_2
  have lek2_2 := lt1 (k := 1) ldk2_2
  have lak2_4 := cell_lt k2_4
  have lbk2_4 := Nat.le_of_lt lak2_4
  have lck2_4 := lt1 (k := 1) lak2_4
  have ldk2_4 := lt1 (k := 1) lck2_4
  have lek2_4 := lt1 (k := 1) ldk2_4
  have lak2_6 := cell_lt k2_6
  have lbk2_6 := Nat.le_of_lt lak2_6
  have lck2_6 := lt1 (k := 1) lak2_6
  have ldk2_6 := lt1 (k := 1) lck2_6
  have lek2_6 := lt1 (k := 1) ldk2_6
  go_wp2_with fail
  refine (unhide H3 _).mono ?_
  rintro e W3 ⟨rfl, hb⟩
  have k3_0 := keep1 hb (b := w.heap.size) (o := 0) (v := .int .i64 a1) (by simp (maxDischargeDepth := 12) [go_sem, le1, lt1, *])
  have k3_1 := keep1 hb (b := w.heap.size) (o := 1) (v := .int .i64 a2) (by simp (maxDischargeDepth := 12) [go_sem, le1, lt1, *])
  have k3_2 := keep1 hb (b := w.heap.size + 1) (o := 0) (v := .int .i64 b1) (by simp (maxDischargeDepth := 12) [go_sem, le1, lt1, *])
  have k3_3 := keep1 hb (b := w.heap.size + 1) (o := 1) (v := .int .i64 b2) (by simp (maxDischargeDepth := 12) [go_sem, le1, lt1, *])
  have k3_4 := keep1 hb (b := w.heap.size + 1 + 1) (o := 0) (v := .int .i64 c1) (by simp (maxDischargeDepth := 12) [go_sem, le1, lt1, *])
  have k3_5 := keep1 hb (b := w.heap.size + 1 + 1) (o := 1) (v := .int .i64 c2) (by simp (maxDischargeDepth := 12) [go_sem, le1, lt1, *])
  have k3_6 := keep1 hb (b := w.heap.size + 1 + 1 + 1) (o := 0) (v := .int .i64 d1) (by simp (maxDischargeDepth := 12) [go_sem, le1, lt1, *])
  have k3_7 := keep1 hb (b := w.heap.size + 1 + 1 + 1) (o := 1) (v := .int .i64 d2) (by simp (maxDischargeDepth := 12) [go_sem, le1, lt1, *])
  have HB3 := hide hb
  clear hb
  clear k2_0 k2_1 k2_2 k2_3 k2_4 k2_5 k2_6 k2_7 lak2_0 lbk2_0 lck2_0 ldk2_0 lek2_0 lak2_2 lbk2_2 lck2_2 ldk2_2 lek2_2 lak2_4 lbk2_4 lck2_4 ldk2_4 lek2_4 lak2_6 lbk2_6 lck2_6 ldk2_6 lek2_6
  have lak3_0 := cell_lt k3_0
  have lbk3_0 := Nat.le_of_lt lak3_0
  have lck3_0 := lt1 (k := 1) lak3_0
  have ldk3_0 := lt1 (k := 1) lck3_0
  have lek3_0 := lt1 (k := 1) ldk3_0
  have lak3_2 := cell_lt k3_2
  have lbk3_2 := Nat.le_of_lt lak3_2
  have lck3_2 := lt1 (k := 1) lak3_2
  have ldk3_2 := lt1 (k := 1) lck3_2
  have lek3_2 := lt1 (k := 1) ldk3_2
  have lak3_4 := cell_lt k3_4
  have lbk3_4 := Nat.le_of_lt lak3_4
  have lck3_4 := lt1 (k := 1) lak3_4
  have ldk3_4 := lt1 (k := 1) lck3_4
  have lek3_4 := lt1 (k := 1) ldk3_4
  have lak3_6 := cell_lt k3_6
  have lbk3_6 := Nat.le_of_lt lak3_6
  have lck3_6 := lt1 (k := 1) lak3_6
  have ldk3_6 := lt1 (k := 1) lck3_6
  have lek3_6 := lt1 (k := 1) ldk3_6
  go_wp2_with fail
  refine (unhide H4 _).mono ?_
  rintro e W4 ⟨rfl, hb⟩
  have k4_0 := keep1 hb (b := w.heap.size) (o := 0) (v := .int .i64 a1) (by simp (maxDischargeDepth := 12) [go_sem, le1, lt1, *])
  have k4_1 := keep1 hb (b := w.heap.size) (o := 1) (v := .int .i64 a2) (by simp (maxDischargeDepth := 12) [go_sem, le1, lt1, *])
  have k4_2 := keep1 hb (b := w.heap.size + 1) (o := 0) (v := .int .i64 b1) (by simp (maxDischargeDepth := 12) [go_sem, le1, lt1, *])
  have k4_3 := keep1 hb (b := w.heap.size + 1) (o := 1) (v := .int .i64 b2) (by simp (maxDischargeDepth := 12) [go_sem, le1, lt1, *])
  have k4_4 := keep1 hb (b := w.heap.size + 1 + 1) (o := 0) (v := .int .i64 c1) (by simp (maxDischargeDepth := 12) [go_sem, le1, lt1, *])
  have k4_5 := keep1 hb (b := w.heap.size + 1 + 1) (o := 1) (v := .int .i64 c2) (by simp (maxDischargeDepth := 12) [go_sem, le1, lt1, *])
  have k4_6 := keep1 hb (b := w.heap.size + 1 + 1 + 1) (o := 0) (v := .int .i64 d1) (by simp (maxDischargeDepth := 12) [go_sem, le1, lt1, *])
  have k4_7 := keep1 hb (b := w.heap.size + 1 + 1 + 1) (o := 1) (v := .int .i64 d2) (by simp (maxDischargeDepth := 12) [go_sem, le1, lt1, *])
  have HB4 := hide hb
  clear hb
  clear k3_0 k3_1 k3_2 k3_3 k3_4 k3_5 k3_6 k3_7 lak3_0 lbk3_0 lck3_0 ldk3_0 lek3_0 lak3_2 lbk3_2 lck3_2 ldk3_2 lek3_2 lak3_4 lbk3_4 lck3_4 ldk3_4 lek3_4 lak3_6 lbk3_6 lck3_6 ldk3_6 lek3_6
  have lak4_0 := cell_lt k4_0
  have lbk4_0 := Nat.le_of_lt lak4_0
  have lck4_0 := lt1 (k := 1) lak4_0
  have ldk4_0 := lt1 (k := 1) lck4_0
  have lek4_0 := lt1 (k := 1) ldk4_0
  have lak4_2 := cell_lt k4_2
  have lbk4_2 := Nat.le_of_lt lak4_2
  have lck4_2 := lt1 (k := 1) lak4_2
  have ldk4_2 := lt1 (k := 1) lck4_2
  have lek4_2 := lt1 (k := 1) ldk4_2
  have lak4_4 := cell_lt k4_4
  have lbk4_4 := Nat.le_of_lt lak4_4
  have lck4_4 := lt1 (k := 1) lak4_4
  have ldk4_4 := lt1 (k := 1) lck4_4
  have lek4_4 := lt1 (k := 1) ldk4_4
  have lak4_6 := cell_lt k4_6
  have lbk4_6 := Nat.le_of_lt lak4_6
  have lck4_6 := lt1 (k := 1) lak4_6
  have ldk4_6 := lt1 (k := 1) lck4_6
  have lek4_6 := lt1 (k := 1) ldk4_6
  have E1 := hide (bc (bc (bc (bc (ba (ba (ba (ba (Below.refl w.heap.size w) _) _) _) _) (unhide HB1)) (unhide HB2)) (unhide HB3)) (unhide HB4))
  clear HB1 HB2 HB3 HB4
  go_wp2_with fail
  refine (unhide LC _).mono ?_
  rintro e W9 ⟨⟨v, rfl, hv⟩, hq⟩
  have HQ := hide hq
  have HV := hide hv
  clear hq hv
  go_wp2_with fail
  go_ret
  exact ⟨⟨_, rfl, (unhide HV).mono (unhide E1).size⟩, bc (unhide E1) (unhide HQ)⟩

set_option maxRecDepth 100000 in
set_option maxHeartbeats 4000000 in
theorem crossM_n1 (a1 a2 b1 b2 c1 c2 d1 d2 s t u v : Int) (w : World)
    (H1 : Hid (∀ W, Calls Try.prog 76 #[.agg #[.int .i64 a1, .int .i64 a2], .agg #[.int .i64 b1, .int .i64 b2], .agg #[.int .i64 c1, .int .i64 c2]] W fun e w' => e = .returned (.int .i64 s) ∧ Below W.heap.size W w'))
    (H2 : Hid (∀ W, Calls Try.prog 76 #[.agg #[.int .i64 a1, .int .i64 a2], .agg #[.int .i64 b1, .int .i64 b2], .agg #[.int .i64 d1, .int .i64 d2]] W fun e w' => e = .returned (.int .i64 t) ∧ Below W.heap.size W w'))
    (H3 : Hid (∀ W, Calls Try.prog 76 #[.agg #[.int .i64 c1, .int .i64 c2], .agg #[.int .i64 d1, .int .i64 d2], .agg #[.int .i64 a1, .int .i64 a2]] W fun e w' => e = .returned (.int .i64 u) ∧ Below W.heap.size W w'))
    (H4 : Hid (∀ W, Calls Try.prog 76 #[.agg #[.int .i64 c1, .int .i64 c2], .agg #[.int .i64 d1, .int .i64 d2], .agg #[.int .i64 b1, .int .i64 b2]] W fun e w' => e = .returned (.int .i64 v) ∧ Below W.heap.size W w'))
    (zz : (s == 0) = false ∨ (s == 0) = true ∧ (t == 0) = false ∨ (s == 0) = true ∧ (t == 0) = true ∧ (u == 0) = false ∨ (s == 0) = true ∧ (t == 0) = true ∧ (u == 0) = true ∧ (v == 0) = false)
    (S T U V : Int) (G1 : Hid (∀ W, Calls Try.prog 78 #[.int .i64 s] W fun e w' => e = .returned (.int .i64 S) ∧ w' = W)) (G2 : Hid (∀ W, Calls Try.prog 78 #[.int .i64 t] W fun e w' => e = .returned (.int .i64 T) ∧ w' = W))
    (G3 : Hid (∀ W, Calls Try.prog 78 #[.int .i64 u] W fun e w' => e = .returned (.int .i64 U) ∧ w' = W)) (G4 : Hid (∀ W, Calls Try.prog 78 #[.int .i64 v] W fun e w' => e = .returned (.int .i64 V) ∧ w' = W))
    (m1 : -1 ≤ S * T) (m2 : S * T ≤ 1) (m3 : -1 ≤ U * V) (m4 : U * V ≤ 1)
    (y1 : decide (0 < S * T) = true)
    :
    Calls Try.prog 61 #[.agg #[.int .i64 a1, .int .i64 a2], .agg #[.int .i64 b1, .int .i64 b2], .agg #[.int .i64 c1, .int .i64 c2], .agg #[.int .i64 d1, .int .i64 d2]] w fun e w' => (∃ k, e = .returned (.slice (some ⟨k, 0, none⟩) 0 0) ∧ w.heap.size ≤ k ∧ w'.heap[k]? = some (.cells #[] 93 (0, 0))) ∧ Below w.heap.size w w' := by
  rcases zz with z1 | ⟨z1, z2⟩ | ⟨z1, z2, z3⟩ | ⟨z1, z2, z3, z4⟩
  all_goals
    go_enter Try.func61, Try.ntmps61
    go_wp2_with fail
    refine (unhide H1 _).mono ?_
    rintro e W1 ⟨rfl, hb⟩
    have k1_0 := keep1 hb (b := w.heap.size) (o := 0) (v := .int .i64 a1) (by simp (maxDischargeDepth := 12) [go_sem, le1, lt1, *])
    have k1_1 := keep1 hb (b := w.heap.size) (o := 1) (v := .int .i64 a2) (by simp (maxDischargeDepth := 12) [go_sem, le1, lt1, *])
    have k1_2 := keep1 hb (b := w.heap.size + 1) (o := 0) (v := .int .i64 b1) (by simp (maxDischargeDepth := 12) [go_sem, le1, lt1, *])
    have k1_3 := keep1 hb (b := w.heap.size + 1) (o := 1) (v := .int .i64 b2) (by simp (maxDischargeDepth := 12) [go_sem, le1, lt1, *])
    have k1_4 := keep1 hb (b := w.heap.size + 1 + 1) (o := 0) (v := .int .i64 c1) (by simp (maxDischargeDepth := 12) [go_sem, le1, lt1, *])
    have k1_5 := keep1 hb (b := w.heap.size + 1 + 1) (o := 1) (v := .int .i64 c2) (by simp (maxDischargeDepth := 12) [go_sem, le1, lt1, *])
    have k1_6 := keep1 hb (b := w.heap.size + 1 + 1 + 1) (o := 0) (v := .int .i64 d1) (by simp (maxDischargeDepth := 12) [go_sem, le1, lt1, *])
    have k1_7 := keep1 hb (b := w.heap.size + 1 + 1 + 1) (o := 1) (v := .int .i64 d2) (by simp (maxDischargeDepth := 12) [go_sem, le1, lt1, *])
    have HB1 := hide hb
    clear hb
    have lak1_0 := cell_lt k1_0
    have lbk1_0 := Nat.le_of_lt lak1_0
    have lck1_0 := lt1 (k := 1) lak1_0
    have ldk1_0 := lt1 (k := 1) lck1_0
    have lek1_0 := lt1 (k := 1) ldk1_0
    have lak1_2 := cell_lt k1_2
    have lbk1_2 := Nat.le_of_lt lak1_2
    have lck1_2 := lt1 (k := 1) lak1_2
    have ldk1_2 := lt1 (k := 1) lck1_2
    have lek1_2 := lt1 (k := 1) ldk1_2
    have lak1_4 := cell_lt k1_4
    have lbk1_4 := Nat.le_of_lt lak1_4
    have lck1_4 := lt1 (k := 1) lak1_4
    have ldk1_4 := lt1 (k := 1) lck1_4
    have lek1_4 := lt1 (k := 1) ldk1_4
    have lak1_6 := cell_lt k1_6
    have lbk1_6 := Nat.le_of_lt lak1_6
    have lck1_6 := lt1 (k := 1) lak1_6
    have ldk1_6 := lt1 (k := 1) lck1_6
    have lek1_6 := lt1 (k := 1) ldk1_6
    go_wp2_with fail
    refine (unhide H2 _).mono ?_
    rintro e W2 ⟨rfl, hb⟩
    have k2_0 := keep1 hb (b := w.heap.size) (o := 0) (v := .int .i64 a1) (by simp (maxDischargeDepth := 12) [go_sem, le1, lt1, *])
    have k2_1 := keep1 hb (b := w.heap.size) (o := 1) (v := .int .i64 a2) (by simp (maxDischargeDepth := 12) [go_sem, le1, lt1, *])
    have k2_2 := keep1 hb (b := w.heap.size + 1) (o := 0) (v := .int .i64 b1) (by simp (maxDischargeDepth := 12) [go_sem, le1, lt1, *])
    have k2_3 := keep1 hb (b := w.heap.size + 1) (o := 1) (v := .int .i64 b2) (by simp (maxDischargeDepth := 12) [go_sem, le1, lt1, *])
    have k2_4 := keep1 hb (b := w.heap.size + 1 + 1) (o := 0) (v := .int .i64 c1) (by simp (maxDischargeDepth := 12) [go_sem, le1, lt1, *])
    have k2_5 := keep1 hb (b := w.heap.size + 1 + 1) (o := 1) (v := .int .i64 c2) (by simp (maxDischargeDepth := 12) [go_sem, le1, lt1, *])
    have k2_6 := keep1 hb (b := w.heap.size + 1 + 1 + 1) (o := 0) (v := .int .i64 d1) (by simp (maxDischargeDepth := 12) [go_sem, le1, lt1, *])
    have k2_7 := keep1 hb (b := w.heap.size + 1 + 1 + 1) (o := 1) (v := .int .i64 d2) (by simp (maxDischargeDepth := 12) [go_sem, le1, lt1, *])
    have HB2 := hide hb
    clear hb
    clear k1_0 k1_1 k1_2 k1_3 k1_4 k1_5 k1_6 k1_7 lak1_0 lbk1_0 lck1_0 ldk1_0 lek1_0 lak1_2 lbk1_2 lck1_2 ldk1_2 lek1_2 lak1_4 lbk1_4 lck1_4 ldk1_4 lek1_4 lak1_6 lbk1_6 lck1_6 ldk1_6 lek1_6
    have lak2_0 := cell_lt k2_0
    have lbk2_0 := Nat.le_of_lt lak2_0
    have lck2_0 := lt1 (k := 1) lak2_0
    have ldk2_0 := lt1 (k := 1) lck2_0
    have lek2_0 := lt1 (k := 1) ldk2_0
    have lak2_2 := cell_lt k2_2
    have lbk2_2 := Nat.le_of_lt lak2_2
    have lck2_2 := lt1 (k := 1) lak2_2
    have ldk2_2 := lt1 (k := 1) lck2_2
    have lek2_2 := lt1 (k := 1) ldk2_2
    have lak2_4 := cell_lt k2_4
    have lbk2_4 := Nat.le_of_lt lak2_4
    have lck2_4 := lt1 (k := 1) lak2_4
    have ldk2_4 := lt1 (k := 1) lck2_4
    have lek2_4 := lt1 (k := 1) ldk2_4
    have lak2_6 := cell_lt k2_6
    have lbk2_6 := Nat.le_of_lt lak2_6
    have lck2_6 := lt1 (k := 1) lak2_6
    have ldk2_6 := lt1 (k := 1) lck2_6
    have lek2_6 := lt1 (k := 1) ldk2_6
    go_wp2_with fail
    refine (unhide H3 _).mono ?_
    rintro e W3 ⟨rfl, hb⟩
    have k3_0 := keep1 hb (b := w.heap.size) (o := 0) (v := .int .i64 a1) (by simp (maxDischargeDepth := 12) [go_sem, le1, lt1, *])
    have k3_1 := keep1 hb (b := w.heap.size) (o := 1) (v := .int .i64 a2) (by simp (maxDischargeDepth := 12) [go_sem, le1, lt1, *])
    have k3_2 := keep1 hb (b := w.heap.size + 1) (o := 0) (v := .int .i64 b1) (by simp (maxDischargeDepth := 12) [go_sem, le1, lt1, *])
    have k3_3 := keep1 hb (b := w.heap.size + 1) (o := 1) (v := .int .i64 b2) (by simp (maxDischargeDepth := 12) [go_sem, le1, lt1, *])
    have k3_4 := keep1 hb (b := w.heap.size + 1 + 1) (o := 0) (v := .int .i64 c1) (by simp (maxDischargeDepth := 12) [go_sem, le1, lt1, *])
    have k3_5 := keep1 hb (b := w.heap.size + 1 + 1) (o := 1) (v := .int .i64 c2) (by simp (maxDischargeDepth := 12) [go_sem, le1, lt1, *])
    have k3_6 := keep1 hb (b := w.heap.size + 1 + 1 + 1) (o := 0) (v := .int .i64 d1) (by simp (maxDischargeDepth := 12) [go_sem, le1, lt1, *])
    have k3_7 := keep1 hb (b := w.heap.size + 1 + 1 + 1) (o := 1) (v := .int .i64 d2) (by simp (maxDischargeDepth := 12) [go_sem, le1, lt1, *])
    have HB3 := hide hb
    clear hb
    clear k2_0 k2_1 k2_2 k2_3 k2_4 k2_5 k2_6 k2_7 lak2_0 lbk2_0 lck2_0 ldk2_0 lek2_0 lak2_2 lbk2_2 lck2_2 ldk2_2 lek2_2 lak2_4 lbk2_4 lck2_4 ldk2_4 lek2_4 lak2_6 lbk2_6 lck2_6 ldk2_6 lek2_6
    have lak3_0 := cell_lt k3_0
    have lbk3_0 := Nat.le_of_lt lak3_0
    have lck3_0 := lt1 (k := 1) lak3_0
    have ldk3_0 := lt1 (k := 1) lck3_0
    have lek3_0 := lt1 (k := 1) ldk3_0
    have lak3_2 := cell_lt k3_2
    have lbk3_2 := Nat.le_of_lt lak3_2
    have lck3_2 := lt1 (k := 1) lak3_2
    have ldk3_2 := lt1 (k := 1) lck3_2
    have lek3_2 := lt1 (k := 1) ldk3_2
    have lak3_4 := cell_lt k3_4
    have lbk3_4 := Nat.le_of_lt lak3_4
    have lck3_4 := lt1 (k := 1) lak3_4
    have ldk3_4 := lt1 (k := 1) lck3_4
    have lek3_4 := lt1 (k := 1) ldk3_4
    have lak3_6 := cell_lt k3_6
    have lbk3_6 := Nat.le_of_lt lak3_6
    have lck3_6 := lt1 (k := 1) lak3_6
    have ldk3_6 := lt1 (k := 1) lck3_6
    have lek3_6 := lt1 (k := 1) ldk3_6
    go_wp2_with fail
    refine (unhide H4 _).mono ?_
    rintro e W4 ⟨rfl, hb⟩
    have HB4 := hide hb
    clear hb
    clear k3_0 k3_1 k3_2 k3_3 k3_4 k3_5 k3_6 k3_7 lak3_0 lbk3_0 lck3_0 ldk3_0 lek3_0 lak3_2 lbk3_2 lck3_2 ldk3_2 lek3_2 lak3_4 lbk3_4 lck3_4 ldk3_4 lek3_4 lak3_6 lbk3_6 lck3_6 ldk3_6 lek3_6
    have E1 := hide (bc (bc (bc (bc (ba (ba (ba (ba (Below.refl w.heap.size w) _) _) _) _) (unhide HB1)) (unhide HB2)) (unhide HB3)) (unhide HB4))
    clear HB1 HB2 HB3 HB4
    go_wp2_with fail
    refine (unhide G1 _).mono ?_
    rintro e W' ⟨rfl, rfl⟩
    go_wp2_with fail
    refine (unhide G2 _).mono ?_
    rintro e W' ⟨rfl, rfl⟩
    go_wp2_with fail
    go_ret
    exact ⟨⟨_, rfl, (unhide E1).size, blk_new _ _⟩, ba (unhide E1) _⟩

set_option maxRecDepth 100000 in
set_option maxHeartbeats 4000000 in
theorem crossM_n2 (a1 a2 b1 b2 c1 c2 d1 d2 s t u v : Int) (w : World)
    (H1 : Hid (∀ W, Calls Try.prog 76 #[.agg #[.int .i64 a1, .int .i64 a2], .agg #[.int .i64 b1, .int .i64 b2], .agg #[.int .i64 c1, .int .i64 c2]] W fun e w' => e = .returned (.int .i64 s) ∧ Below W.heap.size W w'))
    (H2 : Hid (∀ W, Calls Try.prog 76 #[.agg #[.int .i64 a1, .int .i64 a2], .agg #[.int .i64 b1, .int .i64 b2], .agg #[.int .i64 d1, .int .i64 d2]] W fun e w' => e = .returned (.int .i64 t) ∧ Below W.heap.size W w'))
    (H3 : Hid (∀ W, Calls Try.prog 76 #[.agg #[.int .i64 c1, .int .i64 c2], .agg #[.int .i64 d1, .int .i64 d2], .agg #[.int .i64 a1, .int .i64 a2]] W fun e w' => e = .returned (.int .i64 u) ∧ Below W.heap.size W w'))
    (H4 : Hid (∀ W, Calls Try.prog 76 #[.agg #[.int .i64 c1, .int .i64 c2], .agg #[.int .i64 d1, .int .i64 d2], .agg #[.int .i64 b1, .int .i64 b2]] W fun e w' => e = .returned (.int .i64 v) ∧ Below W.heap.size W w'))
    (zz : (s == 0) = false ∨ (s == 0) = true ∧ (t == 0) = false ∨ (s == 0) = true ∧ (t == 0) = true ∧ (u == 0) = false ∨ (s == 0) = true ∧ (t == 0) = true ∧ (u == 0) = true ∧ (v == 0) = false)
    (S T U V : Int) (G1 : Hid (∀ W, Calls Try.prog 78 #[.int .i64 s] W fun e w' => e = .returned (.int .i64 S) ∧ w' = W)) (G2 : Hid (∀ W, Calls Try.prog 78 #[.int .i64 t] W fun e w' => e = .returned (.int .i64 T) ∧ w' = W))
    (G3 : Hid (∀ W, Calls Try.prog 78 #[.int .i64 u] W fun e w' => e = .returned (.int .i64 U) ∧ w' = W)) (G4 : Hid (∀ W, Calls Try.prog 78 #[.int .i64 v] W fun e w' => e = .returned (.int .i64 V) ∧ w' = W))
    (m1 : -1 ≤ S * T) (m2 : S * T ≤ 1) (m3 : -1 ≤ U * V) (m4 : U * V ≤ 1)
    (y1 : decide (0 < S * T) = false) (y2 : decide (0 < U * V) = true)
    :
    Calls Try.prog 61 #[.agg #[.int .i64 a1, .int .i64 a2], .agg #[.int .i64 b1, .int .i64 b2], .agg #[.int .i64 c1, .int .i64 c2], .agg #[.int .i64 d1, .int .i64 d2]] w fun e w' => (∃ k, e = .returned (.slice (some ⟨k, 0, none⟩) 0 0) ∧ w.heap.size ≤ k ∧ w'.heap[k]? = some (.cells #[] 93 (0, 0))) ∧ Below w.heap.size w w' := by
  rcases zz with z1 | ⟨z1, z2⟩ | ⟨z1, z2, z3⟩ | ⟨z1, z2, z3, z4⟩
  all_goals
    go_enter Try.func61, Try.ntmps61
    go_wp2_with fail
    refine (unhide H1 _).mono ?_
    rintro e W1 ⟨rfl, hb⟩
    have k1_0 := keep1 hb (b := w.heap.size) (o := 0) (v := .int .i64 a1) (by simp (maxDischargeDepth := 12) [go_sem, le1, lt1, *])
    have k1_1 := keep1 hb (b := w.heap.size) (o := 1) (v := .int .i64 a2) (by simp (maxDischargeDepth := 12) [go_sem, le1, lt1, *])
    have k1_2 := keep1 hb (b := w.heap.size + 1) (o := 0) (v := .int .i64 b1) (by simp (maxDischargeDepth := 12) [go_sem, le1, lt1, *])
    have k1_3 := keep1 hb (b := w.heap.size + 1) (o := 1) (v := .int .i64 b2) (by simp (maxDischargeDepth := 12) [go_sem, le1, lt1, *])
    have k1_4 := keep1 hb (b := w.heap.size + 1 + 1) (o := 0) (v := .int .i64 c1) (by simp (maxDischargeDepth := 12) [go_sem, le1, lt1, *])
    have k1_5 := keep1 hb (b := w.heap.size + 1 + 1) (o := 1) (v := .int .i64 c2) (by simp (maxDischargeDepth := 12) [go_sem, le1, lt1, *])
    have k1_6 := keep1 hb (b := w.heap.size + 1 + 1 + 1) (o := 0) (v := .int .i64 d1) (by simp (maxDischargeDepth := 12) [go_sem, le1, lt1, *])
    have k1_7 := keep1 hb (b := w.heap.size + 1 + 1 + 1) (o := 1) (v := .int .i64 d2) (by simp (maxDischargeDepth := 12) [go_sem, le1, lt1, *])
    have HB1 := hide hb
    clear hb
    have lak1_0 := cell_lt k1_0
    have lbk1_0 := Nat.le_of_lt lak1_0
    have lck1_0 := lt1 (k := 1) lak1_0
    have ldk1_0 := lt1 (k := 1) lck1_0
    have lek1_0 := lt1 (k := 1) ldk1_0
    have lak1_2 := cell_lt k1_2
    have lbk1_2 := Nat.le_of_lt lak1_2
    have lck1_2 := lt1 (k := 1) lak1_2
    have ldk1_2 := lt1 (k := 1) lck1_2
    have lek1_2 := lt1 (k := 1) ldk1_2
    have lak1_4 := cell_lt k1_4
    have lbk1_4 := Nat.le_of_lt lak1_4
    have lck1_4 := lt1 (k := 1) lak1_4
    have ldk1_4 := lt1 (k := 1) lck1_4
    have lek1_4 := lt1 (k := 1) ldk1_4
    have lak1_6 := cell_lt k1_6
    have lbk1_6 := Nat.le_of_lt lak1_6
    have lck1_6 := lt1 (k := 1) lak1_6
    have ldk1_6 := lt1 (k := 1) lck1_6
    have lek1_6 := lt1 (k := 1) ldk1_6
    go_wp2_with fail
    refine (unhide H2 _).mono ?_
    rintro e W2 ⟨rfl, hb⟩
    have k2_0 := keep1 hb (b := w.heap.size) (o := 0) (v := .int .i64 a1) (by simp (maxDischargeDepth := 12) [go_sem, le1, lt1, *])
    have k2_1 := keep1 hb (b := w.heap.size) (o := 1) (v := .int .i64 a2) (by simp (maxDischargeDepth := 12) [go_sem, le1, lt1, *])
    have k2_2 := keep1 hb (b := w.heap.size + 1) (o := 0) (v := .int .i64 b1) (by simp (maxDischargeDepth := 12) [go_sem, le1, lt1, *])
    have k2_3 := keep1 hb (b := w.heap.size + 1) (o := 1) (v := .int .i64 b2) (by simp (maxDischargeDepth := 12) [go_sem, le1, lt1, *])
    have k2_4 := keep1 hb (b := w.heap.size + 1 + 1) (o := 0) (v := .int .i64 c1) (by simp (maxDischargeDepth := 12) [go_sem, le1, lt1, *])
    have k2_5 := keep1 hb (b := w.heap.size + 1 + 1) (o := 1) (v := .int .i64 c2) (by simp (maxDischargeDepth := 12) [go_sem, le1, lt1, *])
    have k2_6 := keep1 hb (b := w.heap.size + 1 + 1 + 1) (o := 0) (v := .int .i64 d1) (by simp (maxDischargeDepth := 12) [go_sem, le1, lt1, *])
    have k2_7 := keep1 hb (b := w.heap.size + 1 + 1 + 1) (o := 1) (v := .int .i64 d2) (by simp (maxDischargeDepth := 12) [go_sem, le1, lt1, *])
    have HB2 := hide hb
    clear hb
    clear k1_0 k1_1 k1_2 k1_3 k1_4 k1_5 k1_6 k1_7 lak1_0 lbk1_0 lck1_0 ldk1_0 lek1_0 lak1_2 lbk1_2 lck1_2 ldk1_2 lek1_2 lak1_4 lbk1_4 lck1_4 ldk1_4 lek1_4 lak1_6 lbk1_6 lck1_6 ldk1_6 lek1_6
    have lak2_0 := cell_lt k2_0
    have lbk2_0 := Nat.le_of_lt lak2_0
    have lck2_0 := lt1 (k := 1) lak2_0
    have ldk2_0 := lt1 (k := 1) lck2_0
    have lek2_0 := lt1 (k := 1) ldk2_0
    have lak2_2 := cell_lt k2_2
    have lbk2_2 := Nat.le_of_lt lak2_2
    have lck2_2 := lt1 (k := 1) lak2_2
    have ldk2_2 := lt1 (k := 1) lck2_2
    have lek2_2 := lt1 (k := 1) ldk2_2
    have lak2_4 := cell_lt k2_4
    have lbk2_4 := Nat.le_of_lt lak2_4
    have lck2_4 := lt1 (k := 1) lak2_4
    have ldk2_4 := lt1 (k := 1) lck2_4
    have lek2_4 := lt1 (k := 1) ldk2_4
    have lak2_6 := cell_lt k2_6
    have lbk2_6 := Nat.le_of_lt lak2_6
    have lck2_6 := lt1 (k := 1) lak2_6
    have ldk2_6 := lt1 (k := 1) lck2_6
    have lek2_6 := lt1 (k := 1) ldk2_6
    go_wp2_with fail
    refine (unhide H3 _).mono ?_
    rintro e W3 ⟨rfl, hb⟩
    have k3_0 := keep1 hb (b := w.heap.size) (o := 0) (v := .int .i64 a1) (by simp (maxDischargeDepth := 12) [go_sem, le1, lt1, *])
    have k3_1 := keep1 hb (b := w.heap.size) (o := 1) (v := .int .i64 a2) (by simp (maxDischargeDepth := 12) [go_sem, le1, lt1, *])
    have k3_2 := keep1 hb (b := w.heap.size + 1) (o := 0) (v := .int .i64 b1) (by simp (maxDischargeDepth := 12) [go_sem, le1, lt1, *])
    have k3_3 := keep1 hb (b := w.heap.size + 1) (o := 1) (v := .int .i64 b2) (by simp (maxDischargeDepth := 12) [go_sem, le1, lt1, *])
    have k3_4 := keep1 hb (b := w.heap.size + 1 + 1) (o := 0) (v := .int .i64 c1) (by simp (maxDischargeDepth := 12) [go_sem, le1, lt1, *])
    have k3_5 := keep1 hb (b := w.heap.size + 1 + 1) (o := 1) (v := .int .i64 c2) (by simp (maxDischargeDepth := 12) [go_sem, le1, lt1, *])
    have k3_6 := keep1 hb (b := w.heap.size + 1 + 1 + 1) (o := 0) (v := .int .i64 d1) (by simp (maxDischargeDepth := 12) [go_sem, le1, lt1, *])
    have k3_7 := keep1 hb (b := w.heap.size + 1 + 1 + 1) (o := 1) (v := .int .i64 d2) (by simp (maxDischargeDepth := 12) [go_sem, le1, lt1, *])
    have HB3 := hide hb
    clear hb
    clear k2_0 k2_1 k2_2 k2_3 k2_4 k2_5 k2_6 k2_7 lak2_0 lbk2_0 lck2_0 ldk2_0 lek2_0 lak2_2 lbk2_2 lck2_2 ldk2_2 lek2_2 lak2_4 lbk2_4 lck2_4 ldk2_4 lek2_4 lak2_6 lbk2_6 lck2_6 ldk2_6 lek2_6
    have lak3_0 := cell_lt k3_0
    have lbk3_0 := Nat.le_of_lt lak3_0
    have lck3_0 := lt1 (k := 1) lak3_0
    have ldk3_0 := lt1 (k := 1) lck3_0
    have lek3_0 := lt1 (k := 1) ldk3_0
    have lak3_2 := cell_lt k3_2
    have lbk3_2 := Nat.le_of_lt lak3_2
    have lck3_2 := lt1 (k := 1) lak3_2
    have ldk3_2 := lt1 (k := 1) lck3_2
    have lek3_2 := lt1 (k := 1) ldk3_2
    have lak3_4 := cell_lt k3_4
    have lbk3_4 := Nat.le_of_lt lak3_4
    have lck3_4 := lt1 (k := 1) lak3_4
    have ldk3_4 := lt1 (k := 1) lck3_4
    have lek3_4 := lt1 (k := 1) ldk3_4
    have lak3_6 := cell_lt k3_6
    have lbk3_6 := Nat.le_of_lt lak3_6
    have lck3_6 := lt1 (k := 1) lak3_6
    have ldk3_6 := lt1 (k := 1) lck3_6
    have lek3_6 := lt1 (k := 1) ldk3_6
    go_wp2_with fail
    refine (unhide H4 _).mono ?_
    rintro e W4 ⟨rfl, hb⟩
    have HB4 := hide hb
    clear hb
    clear k3_0 k3_1 k3_2 k3_3 k3_4 k3_5 k3_6 k3_7 lak3_0 lbk3_0 lck3_0 ldk3_0 lek3_0 lak3_2 lbk3_2 lck3_2 ldk3_2 lek3_2 lak3_4 lbk3_4 lck3_4 ldk3_4 lek3_4 lak3_6 lbk3_6 lck3_6 ldk3_6 lek3_6
    have E1 := hide (bc (bc (bc (bc (ba (ba (ba (ba (Below.refl w.heap.size w) _) _) _) _) (unhide HB1)) (unhide HB2)) (unhide HB3)) (unhide HB4))
    clear HB1 HB2 HB3 HB4
    go_wp2_with fail
    refine (unhide G1 _).mono ?_
    rintro e W' ⟨rfl, rfl⟩
    go_wp2_with fail
    refine (unhide G2 _).mono ?_
    rintro e W' ⟨rfl, rfl⟩
    go_wp2_with fail
    refine (unhide G3 _).mono ?_
    rintro e W' ⟨rfl, rfl⟩
    go_wp2_with fail
    refine (unhide G4 _).mono ?_
    rintro e W' ⟨rfl, rfl⟩
    go_wp2_with fail
    go_ret
    exact ⟨⟨_, rfl, (unhide E1).size, blk_new _ _⟩, ba (unhide E1) _⟩

set_option maxRecDepth 100000 in
set_option maxHeartbeats 4000000 in
theorem crossM_x (a1 a2 b1 b2 c1 c2 d1 d2 s t u v : Int) (w : World)
    (H1 : Hid (∀ W, Calls Try.prog 76 #[.agg #[.int .i64 a1, .int .i64 a2], .agg #[.int .i64 b1, .int .i64 b2], .agg #[.int .i64 c1, .int .i64 c2]] W fun e w' => e = .returned (.int .i64 s) ∧ Below W.heap.size W w'))
    (H2 : Hid (∀ W, Calls Try.prog 76 #[.agg #[.int .i64 a1, .int .i64 a2], .agg #[.int .i64 b1, .int .i64 b2], .agg #[.int .i64 d1, .int .i64 d2]] W fun e w' => e = .returned (.int .i64 t) ∧ Below W.heap.size W w'))
    (H3 : Hid (∀ W, Calls Try.prog 76 #[.agg #[.int .i64 c1, .int .i64 c2], .agg #[.int .i64 d1, .int .i64 d2], .agg #[.int .i64 a1, .int .i64 a2]] W fun e w' => e = .returned (.int .i64 u) ∧ Below W.heap.size W w'))
    (H4 : Hid (∀ W, Calls Try.prog 76 #[.agg #[.int .i64 c1, .int .i64 c2], .agg #[.int .i64 d1, .int .i64 d2], .agg #[.int .i64 b1, .int .i64 b2]] W fun e w' => e = .returned (.int .i64 v) ∧ Below W.heap.size W w'))
    (zz : (s == 0) = false ∨ (s == 0) = true ∧ (t == 0) = false)
    (S T U V : Int) (G1 : Hid (∀ W, Calls Try.prog 78 #[.int .i64 s] W fun e w' => e = .returned (.int .i64 S) ∧ w' = W)) (G2 : Hid (∀ W, Calls Try.prog 78 #[.int .i64 t] W fun e w' => e = .returned (.int .i64 T) ∧ w' = W))
    (G3 : Hid (∀ W, Calls Try.prog 78 #[.int .i64 u] W fun e w' => e = .returned (.int .i64 U) ∧ w' = W)) (G4 : Hid (∀ W, Calls Try.prog 78 #[.int .i64 v] W fun e w' => e = .returned (.int .i64 V) ∧ w' = W))
    (m1 : -1 ≤ S * T) (m2 : S * T ≤ 1) (m3 : -1 ≤ U * V) (m4 : U * V ≤ 1)
    (y1 : decide (0 < S * T) = false) (y2 : decide (0 < U * V) = false)
    (nab : (a1 == b1) = false ∨ (a1 == b1) = true ∧ (a2 == b2) = false) (ncd : (c1 == d1) = false ∨ (c1 == d1) = true ∧ (c2 == d2) = false)
    (LM : Hid ((-160000000000 ≤ s - t ∧ s - t ≤ 160000000000) ∧ (-200000 ≤ d1 - c1 ∧ d1 - c1 ≤ 200000) ∧ (-200000 ≤ d2 - c2 ∧ d2 - c2 ≤ 200000) ∧ (-16000000000000000 ≤ c1 * (s - t) ∧ c1 * (s - t) ≤ 16000000000000000) ∧ (-16000000000000000 ≤ (d1 - c1) * s ∧ (d1 - c1) * s ≤ 16000000000000000) ∧ (-16000000000000000 ≤ c2 * (s - t) ∧ c2 * (s - t) ≤ 16000000000000000) ∧ (-16000000000000000 ≤ (d2 - c2) * s ∧ (d2 - c2) * s ≤ 16000000000000000)))
    (x y z : Int) (LS : Hid (∀ W, Calls Try.prog 81 #[.int .i64 (c1 * (s - t) + (d1 - c1) * s), .int .i64 (c2 * (s - t) + (d2 - c2) * s), .int .i64 (s - t)] W fun e w' => e = .returned (.agg #[.int .i64 x, .int .i64 y, .int .i64 z]) ∧ Below W.heap.size W w'))
    :
    Calls Try.prog 61 #[.agg #[.int .i64 a1, .int .i64 a2], .agg #[.int .i64 b1, .int .i64 b2], .agg #[.int .i64 c1, .int .i64 c2], .agg #[.int .i64 d1, .int .i64 d2]] w fun e w' => (∃ k, e = .returned (.slice (some ⟨k, 0, none⟩) 1 1) ∧ w.heap.size ≤ k ∧ w'.heap[k]? = some (.cells #[.int .i64 x, .int .i64 y, .int .i64 z] 93 (0, 0))) ∧ Below w.heap.size w w' := by
  rcases zz with z1 | ⟨z1, z2⟩ <;> rcases nab with n1 | ⟨n1, n2⟩ <;> rcases ncd with o1 | ⟨o1, o2⟩
  all_goals
    go_enter Try.func61, Try.ntmps61
    go_wp2_with fail
    refine (unhide H1 _).mono ?_
    rintro e W1 ⟨rfl, hb⟩
    have k1_0 := keep1 hb (b := w.heap.size) (o := 0) (v := .int .i64 a1) (by simp (maxDischargeDepth := 12) [go_sem, le1, lt1, *])
    have k1_1 := keep1 hb (b := w.heap.size) (o := 1) (v := .int .i64 a2) (by simp (maxDischargeDepth := 12) [go_sem, le1, lt1, *])
    have k1_2 := keep1 hb (b := w.heap.size + 1) (o := 0) (v := .int .i64 b1) (by simp (maxDischargeDepth := 12) [go_sem, le1, lt1, *])
    have k1_3 := keep1 hb (b := w.heap.size + 1) (o := 1) (v := .int .i64 b2) (by simp (maxDischargeDepth := 12) [go_sem, le1, lt1, *])
    have k1_4 := keep1 hb (b := w.heap.size + 1 + 1) (o := 0) (v := .int .i64 c1) (by simp (maxDischargeDepth := 12) [go_sem, le1, lt1, *])
    have k1_5 := keep1 hb (b := w.heap.size + 1 + 1) (o := 1) (v := .int .i64 c2) (by simp (maxDischargeDepth := 12) [go_sem, le1, lt1, *])
    have k1_6 := keep1 hb (b := w.heap.size + 1 + 1 + 1) (o := 0) (v := .int .i64 d1) (by simp (maxDischargeDepth := 12) [go_sem, le1, lt1, *])
    have k1_7 := keep1 hb (b := w.heap.size + 1 + 1 + 1) (o := 1) (v := .int .i64 d2) (by simp (maxDischargeDepth := 12) [go_sem, le1, lt1, *])
    have HB1 := hide hb
    clear hb
    have lak1_0 := cell_lt k1_0
    have lbk1_0 := Nat.le_of_lt lak1_0
    have lck1_0 := lt1 (k := 1) lak1_0
    have ldk1_0 := lt1 (k := 1) lck1_0
    have lek1_0 := lt1 (k := 1) ldk1_0
    have lak1_2 := cell_lt k1_2
    have lbk1_2 := Nat.le_of_lt lak1_2
    have lck1_2 := lt1 (k := 1) lak1_2
    have ldk1_2 := lt1 (k := 1) lck1_2
    have lek1_2 := lt1 (k := 1) ldk1_2
    have lak1_4 := cell_lt k1_4
    have lbk1_4 := Nat.le_of_lt lak1_4
    have lck1_4 := lt1 (k := 1) lak1_4
    have ldk1_4 := lt1 (k := 1) lck1_4
    have lek1_4 := lt1 (k := 1) ldk1_4
    have lak1_6 := cell_lt k1_6
    have lbk1_6 := Nat.le_of_lt lak1_6
    have lck1_6 := lt1 (k := 1) lak1_6
    have ldk1_6 := lt1 (k := 1) lck1_6
    have lek1_6 := lt1 (k := 1) ldk1_6
    go_wp2_with fail
    refine (unhide H2 _).mono ?_
    rintro e W2 ⟨rfl, hb⟩
    have k2_0 := keep1 hb (b := w.heap.size) (o := 0) (v := .int .i64 a1) (by simp (maxDischargeDepth := 12) [go_sem, le1, lt1, *])
    have k2_1 := keep1 hb (b := w.heap.size) (o := 1) (v := .int .i64 a2) (by simp (maxDischargeDepth := 12) [go_sem, le1, lt1, *])
    have k2_2 := keep1 hb (b := w.heap.size + 1) (o := 0) (v := .int .i64 b1) (by simp (maxDischargeDepth := 12) [go_sem, le1, lt1, *])
    have k2_3 := keep1 hb (b := w.heap.size + 1) (o := 1) (v := .int .i64 b2) (by simp (maxDischargeDepth := 12) [go_sem, le1, lt1, *])
    have k2_4 := keep1 hb (b := w.heap.size + 1 + 1) (o := 0) (v := .int .i64 c1) (by simp (maxDischargeDepth := 12) [go_sem, le1, lt1, *])
    have k2_5 := keep1 hb (b := w.heap.size + 1 + 1) (o := 1) (v := .int .i64 c2) (by simp (maxDischargeDepth := 12) [go_sem, le1, lt1, *])
    have k2_6 := keep1 hb (b := w.heap.size + 1 + 1 + 1) (o := 0) (v := .int .i64 d1) (by simp (maxDischargeDepth := 12) [go_sem, le1, lt1, *])
    have k2_7 := keep1 hb (b := w.heap.size + 1 + 1 + 1) (o := 1) (v := .int .i64 d2) (by simp (maxDischargeDepth := 12) [go_sem, le1, lt1, *])
    have HB2 := hide hb
    clear hb
    clear k1_0 k1_1 k1_2 k1_3 k1_4 k1_5 k1_6 k1_7 lak1_0 lbk1_0 lck1_0 ldk1_0 lek1_0 lak1_2 lbk1_2 lck1_2 ldk1_2 lek1_2 lak1_4 lbk1_4 lck1_4 ldk1_4 lek1_4 lak1_6 lbk1_6 lck1_6 ldk1_6 lek1_6
    have lak2_0 := cell_lt k2_0
    have lbk2_0 := Nat.le_of_lt lak2_0
    have lck2_0 := lt1 (k := 1) lak2_0
    have ldk2_0 := lt1 (k := 1) lck2_0
    have lek2_0 := lt1 (k := 1) ldk2_0
    have lak2_2 := cell_lt k2_2
    have lbk2_2 := Nat.le_of_lt lak2_2
    have lck2_2 := lt1 (k := 1) lak2_2
    have ldk2_2 := lt1 (k := 1) lck2_2
    have lek2_2 := lt1 (k := 1) ldk2_2
    have lak2_4 := cell_lt k2_4
    have lbk2_4 := Nat.le_of_lt lak2_4
    have lck2_4 := lt1 (k := 1) lak2_4
    have ldk2_4 := lt1 (k := 1) lck2_4
    have lek2_4 := lt1 (k := 1) ldk2_4
    have lak2_6 := cell_lt k2_6
    have lbk2_6 := Nat.le_of_lt lak2_6
    have lck2_6 := lt1 (k := 1) lak2_6
    have ldk2_6 := lt1 (k := 1) lck2_6
    have lek2_6 := lt1 (k := 1) ldk2_6
    go_wp2_with fail
    refine (unhide H3 _).mono ?_
    rintro e W3 ⟨rfl, hb⟩
    have k3_0 := keep1 hb (b := w.heap.size) (o := 0) (v := .int .i64 a1) (by simp (maxDischargeDepth := 12) [go_sem, le1, lt1, *])
    have k3_1 := keep1 hb (b := w.heap.size) (o := 1) (v := .int .i64 a2) (by simp (maxDischargeDepth := 12) [go_sem, le1, lt1, *])
    have k3_2 := keep1 hb (b := w.heap.size + 1) (o := 0) (v := .int .i64 b1) (by simp (maxDischargeDepth := 12) [go_sem, le1, lt1, *])
    have k3_3 := keep1 hb (b := w.heap.size + 1) (o := 1) (v := .int .i64 b2) (by simp (maxDischargeDepth := 12) [go_sem, le1, lt1, *])
    have k3_4 := keep1 hb (b := w.heap.size + 1 + 1) (o := 0) (v := .int .i64 c1) (by simp (maxDischargeDepth := 12) [go_sem, le1, lt1, *])
    have k3_5 := keep1 hb (b := w.heap.size + 1 + 1) (o := 1) (v := .int .i64 c2) (by simp (maxDischargeDepth := 12) [go_sem, le1, lt1, *])
    have k3_6 := keep1 hb (b := w.heap.size + 1 + 1 + 1) (o := 0) (v := .int .i64 d1) (by simp (maxDischargeDepth := 12) [go_sem, le1, lt1, *])
    have k3_7 := keep1 hb (b := w.heap.size + 1 + 1 + 1) (o := 1) (v := .int .i64 d2) (by simp (maxDischargeDepth := 12) [go_sem, le1, lt1, *])
    have HB3 := hide hb
    clear hb
    clear k2_0 k2_1 k2_2 k2_3 k2_4 k2_5 k2_6 k2_7 lak2_0 lbk2_0 lck2_0 ldk2_0 lek2_0 lak2_2 lbk2_2 lck2_2 ldk2_2 lek2_2 lak2_4 lbk2_4 lck2_4 ldk2_4 lek2_4 lak2_6 lbk2_6 lck2_6 ldk2_6 lek2_6
    have lak3_0 := cell_lt k3_0
    have lbk3_0 := Nat.le_of_lt lak3_0
    have lck3_0 := lt1 (k := 1) lak3_0
    have ldk3_0 := lt1 (k := 1) lck3_0
    have lek3_0 := lt1 (k := 1) ldk3_0
    have lak3_2 := cell_lt k3_2
    have lbk3_2 := Nat.le_of_lt lak3_2
    have lck3_2 := lt1 (k := 1) lak3_2
    have ldk3_2 := lt1 (k := 1) lck3_2
    have lek3_2 := lt1 (k := 1) ldk3_2
    have lak3_4 := cell_lt k3_4
    have lbk3_4 := Nat.le_of_lt lak3_4
    have lck3_4 := lt1 (k := 1) lak3_4
    have ldk3_4 := lt1 (k := 1) lck3_4
    have lek3_4 := lt1 (k := 1) ldk3_4
    have lak3_6 := cell_lt k3_6
    have lbk3_6 := Nat.le_of_lt lak3_6
    have lck3_6 := lt1 (k := 1) lak3_6
    have ldk3_6 := lt1 (k := 1) lck3_6
    have lek3_6 := lt1 (k := 1) ldk3_6
    go_wp2_with fail
    refine (unhide H4 _).mono ?_
    rintro e W4 ⟨rfl, hb⟩
    have k4_0 := keep1 hb (b := w.heap.size) (o := 0) (v := .int .i64 a1) (by simp (maxDischargeDepth := 12) [go_sem, le1, lt1, *])
    have k4_1 := keep1 hb (b := w.heap.size) (o := 1) (v := .int .i64 a2) (by simp (maxDischargeDepth := 12) [go_sem, le1, lt1, *])
    have k4_2 := keep1 hb (b := w.heap.size + 1) (o := 0) (v := .int .i64 b1) (by simp (maxDischargeDepth := 12) [go_sem, le1, lt1, *])
    have k4_3 := keep1 hb (b := w.heap.size + 1) (o := 1) (v := .int .i64 b2) (by simp (maxDischargeDepth := 12) [go_sem, le1, lt1, *])
    have k4_4 := keep1 hb (b := w.heap.size + 1 + 1) (o := 0) (v := .int .i64 c1) (by simp (maxDischargeDepth := 12) [go_sem, le1, lt1, *])
    have k4_5 := keep1 hb (b := w.heap.size + 1 + 1) (o := 1) (v := .int .i64 c2) (by simp (maxDischargeDepth := 12) [go_sem, le1, lt1, *])
    have k4_6 := keep1 hb (b := w.heap.size + 1 + 1 + 1) (o := 0) (v := .int .i64 d1) (by simp (maxDischargeDepth := 12) [go_sem, le1, lt1, *])
    have k4_7 := keep1 hb (b := w.heap.size + 1 + 1 + 1) (o := 1) (v := .int .i64 d2) (by simp (maxDischargeDepth := 12) [go_sem, le1, lt1, *])
    have HB4 := hide hb
    clear hb
    clear k3_0 k3_1 k3_2 k3_3 k3_4 k3_5 k3_6 k3_7 lak3_0 lbk3_0 lck3_0 ldk3_0 lek3_0 lak3_2 lbk3_2 lck3_2 ldk3_2 lek3_2 lak3_4 lbk3_4 lck3_4 ldk3_4 lek3_4 lak3_6 lbk3_6 lck3_6 ldk3_6 lek3_6
    have lak4_0 := cell_lt k4_0
    have lbk4_0 := Nat.le_of_lt lak4_0
    have lck4_0 := lt1 (k := 1) lak4_0
    have ldk4_0 := lt1 (k := 1) lck4_0
    have lek4_0 := lt1 (k := 1) ldk4_0
    have lak4_2 := cell_lt k4_2
    have lbk4_2 := Nat.le_of_lt lak4_2
    have lck4_2 := lt1 (k := 1) lak4_2
    have ldk4_2 := lt1 (k := 1) lck4_2
    have lek4_2 := lt1 (k := 1) ldk4_2
    have lak4_4 := cell_lt k4_4
    have lbk4_4 := Nat.le_of_lt lak4_4
    have lck4_4 := lt1 (k := 1) lak4_4
    have ldk4_4 := lt1 (k := 1) lck4_4
    have lek4_4 := lt1 (k := 1) ldk4_4
    have lak4_6 := cell_lt k4_6
    have lbk4_6 := Nat.le_of_lt lak4_6
    have lck4_6 := lt1 (k := 1) lak4_6
    have ldk4_6 := lt1 (k := 1) lck4_6
    have lek4_6 := lt1 (k := 1) ldk4_6
    have E1 := hide (bc (bc (bc (bc (ba (ba (ba (ba (Below.refl w.heap.size w) _) _) _) _) (unhide HB1)) (unhide HB2)) (unhide HB3)) (unhide HB4))
    clear HB1 HB2 HB3 HB4
    go_wp2_with fail
    refine (unhide G1 _).mono ?_
    rintro e W' ⟨rfl, rfl⟩
    go_wp2_with fail
    refine (unhide G2 _).mono ?_
    rintro e W' ⟨rfl, rfl⟩
    go_wp2_with fail
    refine (unhide G3 _).mono ?_
    rintro e W' ⟨rfl, rfl⟩
    go_wp2_with fail
    refine (unhide G4 _).mono ?_
    rintro e W' ⟨rfl, rfl⟩
    have LM2 := unhide LM
    obtain ⟨⟨p1, p2⟩, ⟨p3, p4⟩, ⟨p5, p6⟩, ⟨p7, p8⟩, ⟨p9, r1⟩, ⟨r2, r3⟩, r4, r5⟩ := LM2
    clear LM
    go_wp2_with fail
    refine (unhide LS _).mono ?_
    rintro e W8 ⟨rfl, hq⟩
    have HQ := hide (bc (unhide E1) hq)
    clear hq
    go_wp2_with fail
    go_ret
    exact ⟨⟨_, rfl, (unhide HQ).size, blk_new _ _⟩, ba (unhide HQ) _⟩
end Go.Proofs.Ytimkinpbimangaa

namespace Go.Proofs.Ytimkinpbimangaa
open Go.ChangeShapes Go.WideShapes Go.ChangeAt Go.RowKit
set_option linter.unusedVariables false
set_option linter.unusedSimpArgs false

theorem side_below (a b c : Pt) (ha : ptOk a = true) (hb : ptOk b = true) (hc : ptOk c = true) : Hid (∀ W, Calls Try.prog 76 #[ptv a, ptv b, ptv c] W fun e w' => e = .returned (.int .i64 (side a b c)) ∧ Below W.heap.size W w') :=
  hide fun W => side_any a b c W ha hb hc
theorem side_bd (a b c : Pt) (ha : ptOk a = true) (hb : ptOk b = true) (hc : ptOk c = true) : -80000000000 ≤ side a b c ∧ side a b c ≤ 80000000000 := by
  have h := acr_bd (sub b a) (sub c a) (sub_bd hb ha) (sub_bd hc ha)
  have e : side a b c = acr (sub b a) (sub c a) := by simp only [side, acr, sub]
  rw [e]; exact h
theorem sgn_mul_bd (a b : Int) : -1 ≤ sgn a * sgn b ∧ sgn a * sgn b ≤ 1 := by
  rcases sgn_cases a with ⟨h, _⟩ | ⟨h, _⟩ | ⟨h, _⟩ <;> rcases sgn_cases b with ⟨k, _⟩ | ⟨k, _⟩ | ⟨k, _⟩ <;> rw [h, k] <;> omega
theorem crossM_any (a b c d : Pt) (w : World) (ha : ptOk a = true) (hb : ptOk b = true) (hc : ptOk c = true) (hd : ptOk d = true) :
    Calls Try.prog 61 #[ptv a, ptv b, ptv c, ptv d] w fun e w' => (∃ v, e = .returned v ∧ IsSpots w.heap.size w' v (cross a b c d)) ∧ Below w.heap.size w w' := by
  rw [← cross_eq]
  have H1 := side_below a b c ha hb hc
  have H2 := side_below a b d ha hb hd
  have H3 := side_below c d a hc hd ha
  have H4 := side_below c d b hc hd hb
  have B1 := side_bd a b c ha hb hc
  have B2 := side_bd a b d ha hb hd
  have et := side_t a b c d
  have ev := side_v a b c d
  have hal := along_eq a b c d
  have hm := alongM_any a b c d
  have nab : a = b → side a b c = 0 ∧ side a b d = 0 ∧ side c d a = side c d b := by
    intro h; subst h; exact ⟨by simp only [side]; grind, by simp only [side]; grind, rfl⟩
  have ncd : c = d → side c d a = 0 ∧ side c d b = 0 ∧ side a b c = side a b d := by
    intro h; subst h; exact ⟨by simp only [side]; grind, by simp only [side]; grind, rfl⟩
  unfold crossM
  simp only
  have pc := pt_bd hc
  have pd := pt_bd hd
  generalize side a b c = s at *
  generalize side a b d = t at *
  generalize side c d a = u at *
  generalize side c d b = v at *
  have m1 := sgn_mul_bd s t
  have m2 := sgn_mul_bd u v
  by_cases hz : s = 0 ∧ t = 0 ∧ u = 0 ∧ v = 0
  · rw [if_pos hz, hal hz.1 hz.2.1 hz.2.2.1 hz.2.2.2]
    exact crossM_z a.1 a.2 b.1 b.2 c.1 c.2 d.1 d.2 s t u v w H1 H2 H3 H4 (by simp [hz.1]) (by simp [hz.2.1]) (by simp [hz.2.2.1]) (by simp [hz.2.2.2]) _ (hide fun W => hm W hz.1 hz.2.1 hz.2.2.1 hz.2.2.2)
  rw [if_neg hz]
  have zz : (s == 0) = false ∨ (s == 0) = true ∧ (t == 0) = false ∨ (s == 0) = true ∧ (t == 0) = true ∧ (u == 0) = false ∨ (s == 0) = true ∧ (t == 0) = true ∧ (u == 0) = true ∧ (v == 0) = false := by
    simp only [beq_eq_false_iff_ne, beq_iff_eq]
    omega
  have G1 : ∀ n : Int, Hid (∀ W, Calls Try.prog 78 #[.int .i64 n] W fun e w' => e = .returned (.int .i64 (sgn n)) ∧ w' = W) := fun n => hide fun W => signM_any n W
  by_cases hp : 0 < sgn s * sgn t ∨ 0 < sgn u * sgn v
  · rw [if_pos hp]
    by_cases h1 : 0 < sgn s * sgn t
    · refine (crossM_n1 a.1 a.2 b.1 b.2 c.1 c.2 d.1 d.2 s t u v w H1 H2 H3 H4 zz _ _ _ _ (G1 s) (G1 t) (G1 u) (G1 v) m1.1 m1.2 m2.1 m2.2 (decide_eq_true h1)).mono ?_
      rintro e w' ⟨⟨k, rfl, hk, hc⟩, hb⟩
      exact ⟨⟨_, rfl, .inr ⟨k, 0, rfl, hk, hc⟩⟩, hb⟩
    · refine (crossM_n2 a.1 a.2 b.1 b.2 c.1 c.2 d.1 d.2 s t u v w H1 H2 H3 H4 zz _ _ _ _ (G1 s) (G1 t) (G1 u) (G1 v) m1.1 m1.2 m2.1 m2.2 (decide_eq_false h1) (decide_eq_true (hp.resolve_left h1))).mono ?_
      rintro e w' ⟨⟨k, rfl, hk, hc⟩, hb⟩
      exact ⟨⟨_, rfl, .inr ⟨k, 0, rfl, hk, hc⟩⟩, hb⟩
  rw [if_neg hp]
  have h1 : ¬ 0 < sgn s * sgn t := fun h => hp (.inl h)
  have h2 : ¬ 0 < sgn u * sgn v := fun h => hp (.inr h)
  have h1' := h1
  have h2' := h2
  rw [sgn_mul_pos] at h1' h2'
  have hab : a ≠ b := by
    intro h
    have := nab h
    omega
  have hcd : c ≠ d := by
    intro h
    have := ncd h
    omega
  rw [if_neg hab, if_neg hcd]
  have l1 := mul_bd c.1 (s - t) 100000 160000000000 (by omega) (by omega) (by omega) (by omega)
  have l2 := mul_bd c.2 (s - t) 100000 160000000000 (by omega) (by omega) (by omega) (by omega)
  have l3 := mul_bd (d.1 - c.1) s 200000 80000000000 (by omega) (by omega) (by omega) (by omega)
  have l4 := mul_bd (d.2 - c.2) s 200000 80000000000 (by omega) (by omega) (by omega) (by omega)
  have hn : s - t ≠ 0 := by
    generalize acr (sub b a) (sub d c) = n at *
    omega
  have zx : (s == 0) = false ∨ (s == 0) = true ∧ (t == 0) = false := by
    simp only [beq_eq_false_iff_ne, beq_iff_eq]
    omega
  refine (crossM_x a.1 a.2 b.1 b.2 c.1 c.2 d.1 d.2 s t u v w H1 H2 H3 H4 zx _ _ _ _ (G1 s) (G1 t) (G1 u) (G1 v) m1.1 m1.2 m2.1 m2.2 (decide_eq_false h1) (decide_eq_false h2) (pt_ne hab) (pt_ne hcd) (hide ⟨⟨by omega, by omega⟩, ⟨by omega, by omega⟩, ⟨by omega, by omega⟩, ⟨by omega, by omega⟩, ⟨by omega, by omega⟩, ⟨by omega, by omega⟩, by omega, by omega⟩) _ _ _
    (hide fun W => spotM _ _ _ W hn ⟨by omega, by omega⟩ ⟨by omega, by omega⟩ ⟨by omega, by omega⟩)).mono ?_
  rintro e w' ⟨⟨k, rfl, hk, hc⟩, hb⟩
  exact ⟨⟨_, rfl, .inr ⟨k, 1, rfl, hk, hc⟩⟩, hb⟩
end Go.Proofs.Ytimkinpbimangaa

namespace Go.Proofs.Ytimkinpbimangaa
open Go.ChangeShapes Go.WideShapes Go.ChangeAt Go.RowKit
set_option linter.unusedVariables false
set_option linter.unusedSimpArgs false

theorem adj_one {ps bs : List Int} (hp : ∀ x ∈ ps, 1 ≤ x ∧ x ≤ 1000) (hb : ∀ x ∈ bs, -1 ≤ x ∧ x ≤ 1) {j : Nat} (hj : j + 1 < ps.length) :
    (cross (cn ps bs j) (cn ps bs (j + 1)) (cn ps bs (j + 1)) (cn ps bs (j + 1 + 1))).length ≤ 1 := by
  have g1 : 1 ≤ ps.getD j 0 := by
    rw [List.getD_eq_getElem?_getD, List.getElem?_eq_getElem (show j < ps.length by omega)]
    exact (hp _ (List.getElem_mem _)).1
  have g2 : 1 ≤ ps.getD (j + 1) 0 := by
    rw [List.getD_eq_getElem?_getD, List.getElem?_eq_getElem hj]
    exact (hp _ (List.getElem_mem _)).1
  exact next_one (cn ps bs j) (wy bs j) (ps.getD j 0) (bs.getD j 0) (ps.getD (j + 1) 0) (wy_uw hb j) (getD_in hb (by omega) j) g1 g2
theorem wrap_eq {x y : Int} (e : x = y) (h1 : -1 ≤ y) (h2 : y ≤ 1) : IntKind.i64.wrap x = y := by rw [e]; exact wrap_i (by omega) (by omega)
/-- a slice of so many elements -/
def LenIs (n : Nat) (v : Value) : Prop := ∃ so cap, v = .slice so n cap
theorem crsN_any (a b c d : Pt) (w : World) (ha : ptOk a = true) (hb : ptOk b = true) (hc : ptOk c = true) (hd : ptOk d = true) :
    Calls Try.prog 61 #[ptv a, ptv b, ptv c, ptv d] w fun e w' => (∃ r_, e = .returned r_ ∧ LenIs (cross a b c d).length r_) ∧ Below w.heap.size w w' :=
  (crossM_any a b c d w ha hb hc hd).mono fun e w' ⟨⟨v, he, hv⟩, hb⟩ => ⟨⟨v, he, by
    rcases hv with ⟨rfl, h0⟩ | ⟨k, cap, rfl, _, _⟩
    · exact ⟨none, 0, by rw [h0]; rfl⟩
    · exact ⟨_, cap, rfl⟩⟩, hb⟩
def fstM (o : Option Nat) : Int := match o with | none => -1 | some i => (i : Int)
set_option maxHeartbeats 8000000 in
set_option maxRecDepth 100000 in
theorem stM_any (u v : Option Addr) (p po q qo n m cu cv : Nat) (ps bs : List Int) (w : World) (hl : ps.length = n) (hm : bs.length = m) (hs : stp ps bs = true) (hu : Its w u p po ps) (hv : Its w v q qo bs) :
    Calls Try.prog 38 #[.slice u n cu, .slice v m cv] w fun e w' => (∃ r, e = .returned (.tuple #[r, .int .i64 (fstM (fstB ps bs n))]) ∧ (fstB ps bs n = none → Row w' w.heap.size 32 2 r (n + 1) (fl2 (cns ps bs (n + 1))))) ∧ Below w.heap.size w w' := by
  obtain ⟨⟨n1, n2⟩, nm, hp, hb⟩ := stp_parts hs
  rw [hl] at n1 n2 nm
  rw [hm] at nm
  have HN := hide nm
  have nm1 : m ≤ n := by omega
  have HP := hide hp
  have HBS := hide hb
  have HU := hide hu
  have HV := hide hv
  have HL := hide hl
  have HM := hide hm
  have HOK : Hid (∀ i, i ≤ 41 → ptOk (cn ps bs i) = true) := hide (fun i hi => cn_ok hp hb hi)
  have HADJ : Hid (∀ j, j + 1 < n → (cross (cn ps bs j) (cn ps bs (j + 1)) (cn ps bs (j + 1)) (cn ps bs (j + 1 + 1))).length ≤ 1) := hide (fun j hj => adj_one hp hb (by rw [hl]; exact hj))
  have n0 : (0 : Int) ≤ (n : Int) := Int.natCast_nonneg _
  obtain ⟨iP, hi1, hp0, hp1, hp2⟩ := info_parts pt_info
  clear hp hb hu hv hl hm hs nm
  go_enter Try.func38, Try.ntmps38
  go_wp2_with fail
  go_loopw [7, 8, 9, 10] (fun d0 d1 r s W => ∃ i : Nat, d0 = .int .i64 (wy bs (i - 1)).1 ∧ d1 = .int .i64 (wy bs (i - 1)).2 ∧ s = .int .i64 (i : Int) ∧ i ≤ n ∧ Below w.heap.size w W ∧ w.heap.size + 1 < W.heap.size ∧ vb W w.heap.size 32 [.int .i64 (cn ps bs i).1, .int .i64 (cn ps bs i).2] ∧ Row W (w.heap.size + 1) 32 2 r (i + 1) (fl2 (cns ps bs (i + 1))) ∧ ∀ j, j < i → meetsB ps bs j = false) (fun _ _ _ s _ => n - (intOf s).toNat)
  case atStart => exact ⟨0, rfl, rfl, rfl, Nat.zero_le _, ba (ba (Below.refl _ _) _) _, by simp, (vb_new w 32 [.int .i64 0, .int .i64 0] _ rfl).bel (ba (Below.refl _ _) _), row_vb (L := [0, 0]) (vb_new (w.alloc (.cells #[.int .i64 0, .int .i64 0] 32)) 32 [.int .i64 0, .int .i64 0] _ (by simp)) (by decide) (Nat.le_refl _) (by omega), fun j hj => absurd hj (by omega)⟩
  case round =>
    obtain ⟨i, rfl, rfl, rfl, hi, hW, hsz, hC, hR, hF⟩ := hrel
    have HW := hide hW
    have HC := hide hC
    have HR := hide hR
    have HF := hide hF
    clear hW hC hR hF
    by_cases h : i < n
    · have i1 : (i : Int) < (n : Int) := by omega
      have i0 : (0 : Int) ≤ (i : Int) := Int.natCast_nonneg _
      have iz : decide ((i : Int) < (n : Int)) = true := decide_eq_true i1
      obtain ⟨l, hx⟩ := get_some (unhide HL) h
      obtain ⟨rfl, pw, kl⟩ := ((unhide HU).bel (unhide HW)).at hx
      have lb := unhide HP l (List.mem_of_getElem? hx)
      have gl : ps.getD i 0 = l := by rw [List.getD_eq_getElem?_getD, hx]; rfl
      have uv := wy_uw (unhide HBS) i
      have cb := cn_bd (unhide HP) (unhide HBS) i
      have sb := step_bd uv (p := l) (by omega)
      have E1 : (cn ps bs (i + 1)).1 = (cn ps bs i).1 + (wy bs i).1 * l := by rw [← gl]; rfl
      have E2 : (cn ps bs (i + 1)).2 = (cn ps bs i).2 + (wy bs i).2 * l := by rw [← gl]; rfl
      have W1 := hide (show IntKind.i64.wrap ((wy bs i).1 * l) = (wy bs i).1 * l from wrap_i (by omega) (by omega))
      have W2 := hide (show IntKind.i64.wrap ((cn ps bs i).1 + (wy bs i).1 * l) = (cn ps bs (i + 1)).1 from by rw [E1]; exact wrap_i (by omega) (by omega))
      have W3 := hide (show IntKind.i64.wrap ((wy bs i).2 * l) = (wy bs i).2 * l from wrap_i (by omega) (by omega))
      have W4 := hide (show IntKind.i64.wrap ((cn ps bs i).2 + (wy bs i).2 * l) = (cn ps bs (i + 1)).2 from by rw [E2]; exact wrap_i (by omega) (by omega))
      have HCI : Hid (∀ k, k < i → ∀ W, Calls Try.prog 61 #[ptv (cn ps bs k), ptv (cn ps bs (k + 1)), ptv (cn ps bs i), ptv (cn ps bs (i + 1))] W fun e w' => (∃ r_, e = .returned r_ ∧ LenIs (cross (cn ps bs k) (cn ps bs (k + 1)) (cn ps bs i) (cn ps bs (i + 1))).length r_) ∧ Below W.heap.size W w') := hide (fun k hk W => crsN_any _ _ _ _ W (unhide HOK k (by omega)) (unhide HOK (k + 1) (by omega)) (unhide HOK i (by omega)) (unhide HOK (i + 1) (by omega)))
      have A0 := hide ((unhide HC).cell (m := 0) rfl)
      have A1 := hide ((unhide HC).cell (m := 1) rfl)
      have KL := hide kl
      obtain ⟨g, cap, rfl, hg, hgl, hcap, hcm⟩ := (unhide HR).sm (by
        intro e
        subst e
        rcases (unhide HR).2 with ⟨_, h0⟩ | ⟨_, _, _, h0, _⟩
        · exact absurd h0 (by omega)
        · cases h0)
      clear hx gl uv cb sb E1 E2 kl pw lb hcm
      by_cases hz : i = 0
      · have ey : wy bs (i - 1) = wy bs i := by rw [hz]
        rw [ey]
        clear ey
        have tz : decide ((0 : Int) < (i : Int)) = false := decide_eq_false (by omega)
        have tz1 : ¬ (0 < i) := by omega
        have tz2 : ¬ ((0 : Int) < (i : Int)) := by omega
        have HZ0 := hide hz
        clear hz
        go_wp2_with fail
        refine Go.Code.wp_mono (Only.to (fun _ _ h => h)) (bm12 A0 A1 KL (hide h) W1 W2 (hide h) W3 W4 ?_)
        intro nb X1 hX1 vn hnb
        have HVN := hide vn
        have HC := hide ((unhide HC).bel hX1)
        have HR := hide ((unhide HR).below hX1)
        have HX1 := hide (bc (unhide HW) hX1)
        have szx := Nat.lt_of_lt_of_le hsz hX1.size
        have nbw : w.heap.size ≠ nb := by have := (unhide HW).size; omega
        clear hX1 vn hnb A0 A1 KL W1 W2 W3 W4
        go_wp2_with fail
        go_loopw [13] (fun s W => ∃ k : Nat, s = .int .i64 (k : Int) ∧ k ≤ i ∧ Below X1.heap.size X1 W ∧ ∀ k', k' < k → k' < i - 1 → hit ps bs i k' = false) (fun s _ => i - (intOf s).toNat)
        case atStart => exact ⟨0, rfl, Nat.zero_le _, Below.refl _ _, fun k hk => absurd hk (by omega)⟩
        case round =>
          obtain ⟨k, rfl, hk, hWk, hFk⟩ := hrel
          have HWk := hide hWk
          have HFk := hide hFk
          clear hWk hFk
          have HCk := hide ((unhide HC).bel (unhide HWk))
          have HRk := hide ((unhide HR).below (unhide HWk))
          have HVk := hide ((unhide HVN).bel (unhide HWk))
          have HBk := hide (bc (unhide HX1) (unhide HWk))
          have szk := Nat.lt_of_lt_of_le szx (unhide HWk).size
          by_cases hki : k < i
          · have q1 : (k : Int) < (i : Int) := by omega
            have q0 : (0 : Int) ≤ (k : Int) := Int.natCast_nonneg _
            have qz : decide ((k : Int) < (i : Int)) = true := decide_eq_true q1
            obtain ⟨s0, s1⟩ := fl2_cns_at ps bs (n := i + 1) (i := k) (by omega)
            obtain ⟨s2, s3⟩ := fl2_cns_at ps bs (n := i + 1) (i := k + 1) (by omega)
            have C0 := hide ((unhide HRk).cellAt s0)
            have C1 := hide ((unhide HRk).cellAt s1)
            have C2 := hide ((unhide HRk).cellAt s2)
            have C3 := hide ((unhide HRk).cellAt s3)
            have wk : IntKind.i64.wrap ((k : Int) + 1) = ((k + 1 : Nat) : Int) := by rw [wrap_i (by omega) (by omega)]; omega
            have HCK := hide (unhide HCI k hki)
            simp only [ptv] at HCK
            have HAJ : Hid (k + 1 = i → (cross (cn ps bs k) (cn ps bs (k + 1)) (cn ps bs i) (cn ps bs (i + 1))).length ≤ 1) := hide (fun e => by subst e; exact unhide HADJ k h)
            have HHC : Hid (hit ps bs i k = decide (0 < (cross (cn ps bs k) (cn ps bs (k + 1)) (cn ps bs i) (cn ps bs (i + 1))).length)) := hide rfl
            clear s0 s1 s2 s3
            generalize (cross (cn ps bs k) (cn ps bs (k + 1)) (cn ps bs i) (cn ps bs (i + 1))).length = len at HCK HAJ HHC
            go_wp2_with fail
            refine Go.Code.wp_mono (Only.to (fun _ _ h => h)) (bm16 (Pq := LenIs len) (j := k + 1) C0 C1 C2 C3 (hide ((unhide HCk).cell (m := 0) rfl)) (hide ((unhide HCk).cell (m := 1) rfl)) (hide ((unhide HVk).cell (m := 0) rfl)) (hide ((unhide HVk).cell (m := 1) rfl)) (hide (by omega)) (hide wk) (hide (by omega)) (hide fun X _ => unhide HCK X) ?_)
            intro sv X2 hX2 hsv
            obtain ⟨so, cap3, rfl⟩ := hsv
            have HB3 := hide (bc (unhide HWk) hX2)
            have HBW := hide (bc (unhide HBk) hX2)
            clear hX2 C0 C1 C2 C3 wk HCK
            by_cases hla : k + 1 = i
            · have e1 : ((k : Int) == (i : Int) - 1) = true := by simp; omega
              have e2 : (k : Int) = (i : Int) - 1 := by omega
              have hl1 := unhide HAJ hla
              have t1 : decide ((1 : Int) < (len : Int)) = false := decide_eq_false (by omega)
              have t2 : ¬ (1 : Int) < (len : Int) := by omega
              have HNX : Hid (∀ k', k' < k + 1 → k' < i - 1 → hit ps bs i k' = false) := hide (fun k' h1 h2 => unhide HFk k' (by omega) h2)
              have HE2 := hide e2
              clear e2
              go_wp2_with fail
              go_roundw
              case rel => first | exact ⟨k + 1, by simp, hki, unhide HB3, unhide HNX⟩ | ((repeat apply Exists.intro); refine ⟨?_, rfl⟩; exact ⟨k + 1, by simp, hki, unhide HB3, unhide HNX⟩)
              case measure => first | (simp only [intOf]; omega) | (simp [intOf]; omega)
            · have e1 : ((k : Int) == (i : Int) - 1) = false := by simp; omega
              have e2 : ¬ (k : Int) = (i : Int) - 1 := by omega
              by_cases hpos : 0 < len
              · have t1 : decide ((0 : Int) < (len : Int)) = true := decide_eq_true (by omega)
                have t2 : (0 : Int) < (len : Int) := by omega
                have HMT : Hid (meetsB ps bs i = true) := hide (meets_of (k := k) (by omega) (by rw [unhide HHC]; exact decide_eq_true hpos))
                go_wp2_with fail
                exact bodyPost_ret (v := .tuple #[.slice (some ⟨g, 0, none⟩) (i + 1) cap, .int .i64 (i : Int)]) (by simp [results, Try.results38, go_sem]) rfl ⟨⟨_, by rw [fst_some h (unhide HMT) (unhide HF)]; rfl, fun e => by rw [fst_some h (unhide HMT) (unhide HF)] at e; cases e⟩, unhide HBW⟩
              · have t1 : decide ((0 : Int) < (len : Int)) = false := decide_eq_false (by omega)
                have t2 : ¬ (0 : Int) < (len : Int) := by omega
                have HNX : Hid (∀ k', k' < k + 1 → k' < i - 1 → hit ps bs i k' = false) := hide (by
                  intro k' h1 h2
                  by_cases e : k' < k
                  · exact unhide HFk k' e h2
                  · obtain rfl : k' = k := by omega
                    rw [unhide HHC]
                    exact decide_eq_false hpos)
                go_wp2_with fail
                go_roundw
                case rel => first | exact ⟨k + 1, by simp, hki, unhide HB3, unhide HNX⟩ | ((repeat apply Exists.intro); refine ⟨?_, rfl⟩; exact ⟨k + 1, by simp, hki, unhide HB3, unhide HNX⟩)
                case measure => first | (simp only [intOf]; omega) | (simp [intOf]; omega)
          · have qz : decide ((k : Int) < (i : Int)) = false := decide_eq_false (by omega)
            have q1 : ¬ (k : Int) < (i : Int) := by omega
            have HNM : Hid (meetsB ps bs i = false) := hide (meets_not fun k' hk' => unhide HFk k' (by omega) hk')
            have HNX : Hid (∀ j, j < i + 1 → meetsB ps bs j = false) := hide (by
              intro j hj
              by_cases e : j < i
              · exact unhide HF j e
              · obtain rfl : j = i := by omega
                exact unhide HNM)
            rename World => X2
            have k0 := (unhide HVk).cell (m := 0) rfl
            have k1 := (unhide HVk).cell (m := 1) rfl
            have o0 := (unhide HCk).cell (m := 0) rfl
            have o1 := (unhide HCk).cell (m := 1) rfl
            have kf := (unhide HCk).frozen
            generalize hx1 : (cn ps bs (i + 1)).1 = x1 at *
            generalize hy1 : (cn ps bs (i + 1)).2 = y1 at *
            have EX1 := hide hx1
            have EY1 := hide hy1
            clear hx1 hy1
            have HC3 : Hid (vb ((X2.setCell ⟨w.heap.size, 0, none⟩ (.int .i64 x1)).setCell ⟨w.heap.size, 1, none⟩ (.int .i64 y1)) w.heap.size 32 [.int .i64 x1, .int .i64 y1]) := hide (((unhide HCk).set 0 _).set 1 _)
            have HR3 : Hid (Row ((X2.setCell ⟨w.heap.size, 0, none⟩ (.int .i64 x1)).setCell ⟨w.heap.size, 1, none⟩ (.int .i64 y1)) (w.heap.size + 1) 32 2 (.slice (some ⟨g, 0, none⟩) (i + 1) cap) (i + 1) (fl2 (cns ps bs (i + 1)))) := hide (((unhide HRk).ne (by omega)).ne (by omega))
            have HB3 : Hid (Below w.heap.size w ((X2.setCell ⟨w.heap.size, 0, none⟩ (.int .i64 x1)).setCell ⟨w.heap.size, 1, none⟩ (.int .i64 y1))) := hide (((unhide HBk).setCell (by simp) _).setCell (by simp) _)
            have sz3 : w.heap.size + 1 < ((X2.setCell ⟨w.heap.size, 0, none⟩ (.int .i64 x1)).setCell ⟨w.heap.size, 1, none⟩ (.int .i64 y1)).heap.size := by simpa using szk
            go_wp2_with (at_builtin; refine unhide ?_)
            refine hide ?_
            generalize hX : ((X2.setCell ⟨w.heap.size, 0, none⟩ (.int .i64 x1)).setCell ⟨w.heap.size, 1, none⟩ (.int .i64 y1)) = X at *
            have HXS : Hid (X2.heap.size = X.heap.size) := hide (by rw [← hX]; simp)
            clear hX HCk HVk HRk HBk szk k0 k1 o0 o1 kf
            refine wpList_append_own _ rfl _ _ 26 rfl (w.heap.size + 1) 32 iP _ 2 16 Try.underlying26 hi1 hp0 hp1 hp2 rfl (by decide) _ _ _ rfl ((unhide HR3).below (ba (Below.refl _ _) _)) _ 1 1 ([x1, y1].map (Value.int .i64)) rfl rfl (by exact news_cells _ _ (unhide HXS)) ints_one (by unfold maxLen; omega) (by omega) (by first | omega | (simp; omega)) ?_
            intro v' wz hown' hgrow _
            obtain ⟨R4, B4⟩ := own_more (wr := X) (news := [x1, y1]) (by repeat (first | exact Below.refl _ _ | refine Below.alloc ?_ (by first | omega | (simp; omega)) _ | refine Below.drew ?_)) (by simp; omega) (unhide HR3) hown' hgrow
            have R5 : Hid (Row wz (w.heap.size + 1) 32 2 v' (i + 1 + 1) (fl2 (cns ps bs (i + 1 + 1)))) := hide (by rw [fl2_cns_succ ps bs (i + 1), unhide EX1, unhide EY1]; exact R4)
            have C5 : Hid (vb wz w.heap.size 32 [.int .i64 (cn ps bs (i + 1)).1, .int .i64 (cn ps bs (i + 1)).2]) := hide (by rw [unhide EX1, unhide EY1]; exact (unhide HC3).below B4 (by omega))
            have B5 := hide ((unhide HB3).trans (B4.mono (by omega)))
            have sz5 : w.heap.size + 1 < wz.heap.size := Nat.lt_of_lt_of_le sz3 B4.size
            clear hown' hgrow R4 B4
            go_wp2_with fail
            go_roundw
            case rel => first | exact ⟨i + 1, rfl, rfl, by simp, h, unhide B5, sz5, unhide C5, unhide R5, unhide HNX⟩ | ((repeat apply Exists.intro); refine ⟨?_, rfl⟩; exact ⟨i + 1, rfl, rfl, by simp, h, unhide B5, sz5, unhide C5, unhide R5, unhide HNX⟩)
            case measure => first | (simp only [intOf]; omega) | (simp [intOf]; omega)
      obtain ⟨j, hj⟩ : ∃ j, i = j + 1 := ⟨i - 1, by omega⟩
      have tz : decide ((0 : Int) < (i : Int)) = true := decide_eq_true (by omega)
      have tz1 : 0 < i := by omega
      have tz2 : (0 : Int) < (i : Int) := by omega
      have hjm : j < m := by have := unhide HN; omega
      obtain ⟨b, hbx⟩ := get_some (unhide HM) hjm
      obtain ⟨rfl, pw, kb⟩ := ((unhide HV).bel (unhide HW)).at hbx
      have bb := unhide HBS b (List.mem_of_getElem? hbx)
      have gb : bs.getD j 0 = b := by rw [List.getD_eq_getElem?_getD, hbx]; rfl
      have ety : wy bs i = trn (wy bs j) b := by rw [hj, ← gb]; rfl
      have esub : wy bs (i - 1) = wy bs j := by rw [hj]; rfl
      have wj : IntKind.i64.wrap ((i : Int) - 1) = (j : Int) := by rw [wrap_i (by omega) (by omega)]; omega
      have hji : (j : Int) < (m : Int) := by omega
      have j0 : (0 : Int) ≤ (j : Int) := Int.natCast_nonneg _
      have uj := wy_uw (unhide HBS) j
      have sm := small_mul uj bb
      have ub := uw_bd uj
      rw [esub]
      have HJ := hide hj
      clear esub hj hbx gb pw uj
      by_cases hb0 : b = 0
      · have ew : wy bs j = wy bs i := by rw [ety]; unfold trn; rw [if_pos hb0]
        rw [ew]
        have bz : (b != 0) = false := by simp [hb0]
        subst hb0
        clear ew ety sm ub bb
        go_wp2_with fail
        clear wj
        refine Go.Code.wp_mono (Only.to (fun _ _ h => h)) (bm12 A0 A1 KL (hide h) W1 W2 (hide h) W3 W4 ?_)
        intro nb X1 hX1 vn hnb
        have HVN := hide vn
        have HC := hide ((unhide HC).bel hX1)
        have HR := hide ((unhide HR).below hX1)
        have HX1 := hide (bc (unhide HW) hX1)
        have szx := Nat.lt_of_lt_of_le hsz hX1.size
        have nbw : w.heap.size ≠ nb := by have := (unhide HW).size; omega
        clear hX1 vn hnb A0 A1 KL W1 W2 W3 W4
        go_wp2_with fail
        go_loopw [13] (fun s W => ∃ k : Nat, s = .int .i64 (k : Int) ∧ k ≤ i ∧ Below X1.heap.size X1 W ∧ ∀ k', k' < k → k' < i - 1 → hit ps bs i k' = false) (fun s _ => i - (intOf s).toNat)
        case atStart => exact ⟨0, rfl, Nat.zero_le _, Below.refl _ _, fun k hk => absurd hk (by omega)⟩
        case round =>
          obtain ⟨k, rfl, hk, hWk, hFk⟩ := hrel
          have HWk := hide hWk
          have HFk := hide hFk
          clear hWk hFk
          have HCk := hide ((unhide HC).bel (unhide HWk))
          have HRk := hide ((unhide HR).below (unhide HWk))
          have HVk := hide ((unhide HVN).bel (unhide HWk))
          have HBk := hide (bc (unhide HX1) (unhide HWk))
          have szk := Nat.lt_of_lt_of_le szx (unhide HWk).size
          by_cases hki : k < i
          · have q1 : (k : Int) < (i : Int) := by omega
            have q0 : (0 : Int) ≤ (k : Int) := Int.natCast_nonneg _
            have qz : decide ((k : Int) < (i : Int)) = true := decide_eq_true q1
            obtain ⟨s0, s1⟩ := fl2_cns_at ps bs (n := i + 1) (i := k) (by omega)
            obtain ⟨s2, s3⟩ := fl2_cns_at ps bs (n := i + 1) (i := k + 1) (by omega)
            have C0 := hide ((unhide HRk).cellAt s0)
            have C1 := hide ((unhide HRk).cellAt s1)
            have C2 := hide ((unhide HRk).cellAt s2)
            have C3 := hide ((unhide HRk).cellAt s3)
            have wk : IntKind.i64.wrap ((k : Int) + 1) = ((k + 1 : Nat) : Int) := by rw [wrap_i (by omega) (by omega)]; omega
            have HCK := hide (unhide HCI k hki)
            simp only [ptv] at HCK
            have HAJ : Hid (k + 1 = i → (cross (cn ps bs k) (cn ps bs (k + 1)) (cn ps bs i) (cn ps bs (i + 1))).length ≤ 1) := hide (fun e => by subst e; exact unhide HADJ k h)
            have HHC : Hid (hit ps bs i k = decide (0 < (cross (cn ps bs k) (cn ps bs (k + 1)) (cn ps bs i) (cn ps bs (i + 1))).length)) := hide rfl
            clear s0 s1 s2 s3
            generalize (cross (cn ps bs k) (cn ps bs (k + 1)) (cn ps bs i) (cn ps bs (i + 1))).length = len at HCK HAJ HHC
            go_wp2_with fail
            refine Go.Code.wp_mono (Only.to (fun _ _ h => h)) (bm16 (Pq := LenIs len) (j := k + 1) C0 C1 C2 C3 (hide ((unhide HCk).cell (m := 0) rfl)) (hide ((unhide HCk).cell (m := 1) rfl)) (hide ((unhide HVk).cell (m := 0) rfl)) (hide ((unhide HVk).cell (m := 1) rfl)) (hide (by omega)) (hide wk) (hide (by omega)) (hide fun X _ => unhide HCK X) ?_)
            intro sv X2 hX2 hsv
            obtain ⟨so, cap3, rfl⟩ := hsv
            have HB3 := hide (bc (unhide HWk) hX2)
            have HBW := hide (bc (unhide HBk) hX2)
            clear hX2 C0 C1 C2 C3 wk HCK
            by_cases hla : k + 1 = i
            · have e1 : ((k : Int) == (i : Int) - 1) = true := by simp; omega
              have e2 : (k : Int) = (i : Int) - 1 := by omega
              have hl1 := unhide HAJ hla
              have t1 : decide ((1 : Int) < (len : Int)) = false := decide_eq_false (by omega)
              have t2 : ¬ (1 : Int) < (len : Int) := by omega
              have HNX : Hid (∀ k', k' < k + 1 → k' < i - 1 → hit ps bs i k' = false) := hide (fun k' h1 h2 => unhide HFk k' (by omega) h2)
              have HE2 := hide e2
              clear e2
              go_wp2_with fail
              go_roundw
              case rel => first | exact ⟨k + 1, by simp, hki, unhide HB3, unhide HNX⟩ | ((repeat apply Exists.intro); refine ⟨?_, rfl⟩; exact ⟨k + 1, by simp, hki, unhide HB3, unhide HNX⟩)
              case measure => first | (simp only [intOf]; omega) | (simp [intOf]; omega)
            · have e1 : ((k : Int) == (i : Int) - 1) = false := by simp; omega
              have e2 : ¬ (k : Int) = (i : Int) - 1 := by omega
              by_cases hpos : 0 < len
              · have t1 : decide ((0 : Int) < (len : Int)) = true := decide_eq_true (by omega)
                have t2 : (0 : Int) < (len : Int) := by omega
                have HMT : Hid (meetsB ps bs i = true) := hide (meets_of (k := k) (by omega) (by rw [unhide HHC]; exact decide_eq_true hpos))
                go_wp2_with fail
                exact bodyPost_ret (v := .tuple #[.slice (some ⟨g, 0, none⟩) (i + 1) cap, .int .i64 (i : Int)]) (by simp [results, Try.results38, go_sem]) rfl ⟨⟨_, by rw [fst_some h (unhide HMT) (unhide HF)]; rfl, fun e => by rw [fst_some h (unhide HMT) (unhide HF)] at e; cases e⟩, unhide HBW⟩
              · have t1 : decide ((0 : Int) < (len : Int)) = false := decide_eq_false (by omega)
                have t2 : ¬ (0 : Int) < (len : Int) := by omega
                have HNX : Hid (∀ k', k' < k + 1 → k' < i - 1 → hit ps bs i k' = false) := hide (by
                  intro k' h1 h2
                  by_cases e : k' < k
                  · exact unhide HFk k' e h2
                  · obtain rfl : k' = k := by omega
                    rw [unhide HHC]
                    exact decide_eq_false hpos)
                go_wp2_with fail
                go_roundw
                case rel => first | exact ⟨k + 1, by simp, hki, unhide HB3, unhide HNX⟩ | ((repeat apply Exists.intro); refine ⟨?_, rfl⟩; exact ⟨k + 1, by simp, hki, unhide HB3, unhide HNX⟩)
                case measure => first | (simp only [intOf]; omega) | (simp [intOf]; omega)
          · have qz : decide ((k : Int) < (i : Int)) = false := decide_eq_false (by omega)
            have q1 : ¬ (k : Int) < (i : Int) := by omega
            have HNM : Hid (meetsB ps bs i = false) := hide (meets_not fun k' hk' => unhide HFk k' (by omega) hk')
            have HNX : Hid (∀ j, j < i + 1 → meetsB ps bs j = false) := hide (by
              intro j hj
              by_cases e : j < i
              · exact unhide HF j e
              · obtain rfl : j = i := by omega
                exact unhide HNM)
            rename World => X2
            have k0 := (unhide HVk).cell (m := 0) rfl
            have k1 := (unhide HVk).cell (m := 1) rfl
            have o0 := (unhide HCk).cell (m := 0) rfl
            have o1 := (unhide HCk).cell (m := 1) rfl
            have kf := (unhide HCk).frozen
            generalize hx1 : (cn ps bs (i + 1)).1 = x1 at *
            generalize hy1 : (cn ps bs (i + 1)).2 = y1 at *
            have EX1 := hide hx1
            have EY1 := hide hy1
            clear hx1 hy1
            have HC3 : Hid (vb ((X2.setCell ⟨w.heap.size, 0, none⟩ (.int .i64 x1)).setCell ⟨w.heap.size, 1, none⟩ (.int .i64 y1)) w.heap.size 32 [.int .i64 x1, .int .i64 y1]) := hide (((unhide HCk).set 0 _).set 1 _)
            have HR3 : Hid (Row ((X2.setCell ⟨w.heap.size, 0, none⟩ (.int .i64 x1)).setCell ⟨w.heap.size, 1, none⟩ (.int .i64 y1)) (w.heap.size + 1) 32 2 (.slice (some ⟨g, 0, none⟩) (i + 1) cap) (i + 1) (fl2 (cns ps bs (i + 1)))) := hide (((unhide HRk).ne (by omega)).ne (by omega))
            have HB3 : Hid (Below w.heap.size w ((X2.setCell ⟨w.heap.size, 0, none⟩ (.int .i64 x1)).setCell ⟨w.heap.size, 1, none⟩ (.int .i64 y1))) := hide (((unhide HBk).setCell (by simp) _).setCell (by simp) _)
            have sz3 : w.heap.size + 1 < ((X2.setCell ⟨w.heap.size, 0, none⟩ (.int .i64 x1)).setCell ⟨w.heap.size, 1, none⟩ (.int .i64 y1)).heap.size := by simpa using szk
            go_wp2_with (at_builtin; refine unhide ?_)
            refine hide ?_
            generalize hX : ((X2.setCell ⟨w.heap.size, 0, none⟩ (.int .i64 x1)).setCell ⟨w.heap.size, 1, none⟩ (.int .i64 y1)) = X at *
            have HXS : Hid (X2.heap.size = X.heap.size) := hide (by rw [← hX]; simp)
            clear hX HCk HVk HRk HBk szk k0 k1 o0 o1 kf
            refine wpList_append_own _ rfl _ _ 26 rfl (w.heap.size + 1) 32 iP _ 2 16 Try.underlying26 hi1 hp0 hp1 hp2 rfl (by decide) _ _ _ rfl ((unhide HR3).below (ba (Below.refl _ _) _)) _ 1 1 ([x1, y1].map (Value.int .i64)) rfl rfl (by exact news_cells _ _ (unhide HXS)) ints_one (by unfold maxLen; omega) (by omega) (by first | omega | (simp; omega)) ?_
            intro v' wz hown' hgrow _
            obtain ⟨R4, B4⟩ := own_more (wr := X) (news := [x1, y1]) (by repeat (first | exact Below.refl _ _ | refine Below.alloc ?_ (by first | omega | (simp; omega)) _ | refine Below.drew ?_)) (by simp; omega) (unhide HR3) hown' hgrow
            have R5 : Hid (Row wz (w.heap.size + 1) 32 2 v' (i + 1 + 1) (fl2 (cns ps bs (i + 1 + 1)))) := hide (by rw [fl2_cns_succ ps bs (i + 1), unhide EX1, unhide EY1]; exact R4)
            have C5 : Hid (vb wz w.heap.size 32 [.int .i64 (cn ps bs (i + 1)).1, .int .i64 (cn ps bs (i + 1)).2]) := hide (by rw [unhide EX1, unhide EY1]; exact (unhide HC3).below B4 (by omega))
            have B5 := hide ((unhide HB3).trans (B4.mono (by omega)))
            have sz5 : w.heap.size + 1 < wz.heap.size := Nat.lt_of_lt_of_le sz3 B4.size
            clear hown' hgrow R4 B4
            go_wp2_with fail
            go_roundw
            case rel => first | exact ⟨i + 1, rfl, rfl, by simp, h, unhide B5, sz5, unhide C5, unhide R5, unhide HNX⟩ | ((repeat apply Exists.intro); refine ⟨?_, rfl⟩; exact ⟨i + 1, rfl, rfl, by simp, h, unhide B5, sz5, unhide C5, unhide R5, unhide HNX⟩)
            case measure => first | (simp only [intOf]; omega) | (simp [intOf]; omega)
      · have ew : wy bs i = (-b * (wy bs j).2, b * (wy bs j).1) := by rw [ety]; unfold trn; rw [if_neg hb0]
        have bz : (b != 0) = true := by simp [hb0]
        obtain ⟨e0, e1⟩ : (wy bs i).1 = -b * (wy bs j).2 ∧ (wy bs i).2 = b * (wy bs j).1 := by rw [ew]; exact ⟨rfl, rfl⟩
        generalize hd0 : (wy bs j).1 = d0 at *
        generalize hd1 : (wy bs j).2 = d1 at *
        have w5 : IntKind.i64.wrap (-d1) = -d1 := wrap_i (by omega) (by omega)
        have w6 : IntKind.i64.wrap (-d1 * b) = (wy bs i).1 := wrap_eq (by rw [e0]; grind) (by rw [e0]; omega) (by rw [e0]; omega)
        have w7 : IntKind.i64.wrap (d0 * b) = (wy bs i).2 := wrap_eq (by rw [e1]; grind) (by rw [e1]; omega) (by rw [e1]; omega)
        clear ew ety sm ub bb e0 e1 hd0 hd1
        go_wp2_with fail
        clear wj w5 w6 w7
        refine Go.Code.wp_mono (Only.to (fun _ _ h => h)) (bm12 A0 A1 KL (hide h) W1 W2 (hide h) W3 W4 ?_)
        intro nb X1 hX1 vn hnb
        have HVN := hide vn
        have HC := hide ((unhide HC).bel hX1)
        have HR := hide ((unhide HR).below hX1)
        have HX1 := hide (bc (unhide HW) hX1)
        have szx := Nat.lt_of_lt_of_le hsz hX1.size
        have nbw : w.heap.size ≠ nb := by have := (unhide HW).size; omega
        clear hX1 vn hnb A0 A1 KL W1 W2 W3 W4
        go_wp2_with fail
        go_loopw [13] (fun s W => ∃ k : Nat, s = .int .i64 (k : Int) ∧ k ≤ i ∧ Below X1.heap.size X1 W ∧ ∀ k', k' < k → k' < i - 1 → hit ps bs i k' = false) (fun s _ => i - (intOf s).toNat)
        case atStart => exact ⟨0, rfl, Nat.zero_le _, Below.refl _ _, fun k hk => absurd hk (by omega)⟩
        case round =>
          obtain ⟨k, rfl, hk, hWk, hFk⟩ := hrel
          have HWk := hide hWk
          have HFk := hide hFk
          clear hWk hFk
          have HCk := hide ((unhide HC).bel (unhide HWk))
          have HRk := hide ((unhide HR).below (unhide HWk))
          have HVk := hide ((unhide HVN).bel (unhide HWk))
          have HBk := hide (bc (unhide HX1) (unhide HWk))
          have szk := Nat.lt_of_lt_of_le szx (unhide HWk).size
          by_cases hki : k < i
          · have q1 : (k : Int) < (i : Int) := by omega
            have q0 : (0 : Int) ≤ (k : Int) := Int.natCast_nonneg _
            have qz : decide ((k : Int) < (i : Int)) = true := decide_eq_true q1
            obtain ⟨s0, s1⟩ := fl2_cns_at ps bs (n := i + 1) (i := k) (by omega)
            obtain ⟨s2, s3⟩ := fl2_cns_at ps bs (n := i + 1) (i := k + 1) (by omega)
            have C0 := hide ((unhide HRk).cellAt s0)
            have C1 := hide ((unhide HRk).cellAt s1)
            have C2 := hide ((unhide HRk).cellAt s2)
            have C3 := hide ((unhide HRk).cellAt s3)
            have wk : IntKind.i64.wrap ((k : Int) + 1) = ((k + 1 : Nat) : Int) := by rw [wrap_i (by omega) (by omega)]; omega
            have HCK := hide (unhide HCI k hki)
            simp only [ptv] at HCK
            have HAJ : Hid (k + 1 = i → (cross (cn ps bs k) (cn ps bs (k + 1)) (cn ps bs i) (cn ps bs (i + 1))).length ≤ 1) := hide (fun e => by subst e; exact unhide HADJ k h)
            have HHC : Hid (hit ps bs i k = decide (0 < (cross (cn ps bs k) (cn ps bs (k + 1)) (cn ps bs i) (cn ps bs (i + 1))).length)) := hide rfl
            clear s0 s1 s2 s3
            generalize (cross (cn ps bs k) (cn ps bs (k + 1)) (cn ps bs i) (cn ps bs (i + 1))).length = len at HCK HAJ HHC
            go_wp2_with fail
            refine Go.Code.wp_mono (Only.to (fun _ _ h => h)) (bm16 (Pq := LenIs len) (j := k + 1) C0 C1 C2 C3 (hide ((unhide HCk).cell (m := 0) rfl)) (hide ((unhide HCk).cell (m := 1) rfl)) (hide ((unhide HVk).cell (m := 0) rfl)) (hide ((unhide HVk).cell (m := 1) rfl)) (hide (by omega)) (hide wk) (hide (by omega)) (hide fun X _ => unhide HCK X) ?_)
            intro sv X2 hX2 hsv
            obtain ⟨so, cap3, rfl⟩ := hsv
            have HB3 := hide (bc (unhide HWk) hX2)
            have HBW := hide (bc (unhide HBk) hX2)
            clear hX2 C0 C1 C2 C3 wk HCK
            by_cases hla : k + 1 = i
            · have e1 : ((k : Int) == (i : Int) - 1) = true := by simp; omega
              have e2 : (k : Int) = (i : Int) - 1 := by omega
              have hl1 := unhide HAJ hla
              have t1 : decide ((1 : Int) < (len : Int)) = false := decide_eq_false (by omega)
              have t2 : ¬ (1 : Int) < (len : Int) := by omega
              have HNX : Hid (∀ k', k' < k + 1 → k' < i - 1 → hit ps bs i k' = false) := hide (fun k' h1 h2 => unhide HFk k' (by omega) h2)
              have HE2 := hide e2
              clear e2
              go_wp2_with fail
              go_roundw
              case rel => first | exact ⟨k + 1, by simp, hki, unhide HB3, unhide HNX⟩ | ((repeat apply Exists.intro); refine ⟨?_, rfl⟩; exact ⟨k + 1, by simp, hki, unhide HB3, unhide HNX⟩)
              case measure => first | (simp only [intOf]; omega) | (simp [intOf]; omega)
            · have e1 : ((k : Int) == (i : Int) - 1) = false := by simp; omega
              have e2 : ¬ (k : Int) = (i : Int) - 1 := by omega
              by_cases hpos : 0 < len
              · have t1 : decide ((0 : Int) < (len : Int)) = true := decide_eq_true (by omega)
                have t2 : (0 : Int) < (len : Int) := by omega
                have HMT : Hid (meetsB ps bs i = true) := hide (meets_of (k := k) (by omega) (by rw [unhide HHC]; exact decide_eq_true hpos))
                go_wp2_with fail
                exact bodyPost_ret (v := .tuple #[.slice (some ⟨g, 0, none⟩) (i + 1) cap, .int .i64 (i : Int)]) (by simp [results, Try.results38, go_sem]) rfl ⟨⟨_, by rw [fst_some h (unhide HMT) (unhide HF)]; rfl, fun e => by rw [fst_some h (unhide HMT) (unhide HF)] at e; cases e⟩, unhide HBW⟩
              · have t1 : decide ((0 : Int) < (len : Int)) = false := decide_eq_false (by omega)
                have t2 : ¬ (0 : Int) < (len : Int) := by omega
                have HNX : Hid (∀ k', k' < k + 1 → k' < i - 1 → hit ps bs i k' = false) := hide (by
                  intro k' h1 h2
                  by_cases e : k' < k
                  · exact unhide HFk k' e h2
                  · obtain rfl : k' = k := by omega
                    rw [unhide HHC]
                    exact decide_eq_false hpos)
                go_wp2_with fail
                go_roundw
                case rel => first | exact ⟨k + 1, by simp, hki, unhide HB3, unhide HNX⟩ | ((repeat apply Exists.intro); refine ⟨?_, rfl⟩; exact ⟨k + 1, by simp, hki, unhide HB3, unhide HNX⟩)
                case measure => first | (simp only [intOf]; omega) | (simp [intOf]; omega)
          · have qz : decide ((k : Int) < (i : Int)) = false := decide_eq_false (by omega)
            have q1 : ¬ (k : Int) < (i : Int) := by omega
            have HNM : Hid (meetsB ps bs i = false) := hide (meets_not fun k' hk' => unhide HFk k' (by omega) hk')
            have HNX : Hid (∀ j, j < i + 1 → meetsB ps bs j = false) := hide (by
              intro j hj
              by_cases e : j < i
              · exact unhide HF j e
              · obtain rfl : j = i := by omega
                exact unhide HNM)
            rename World => X2
            have k0 := (unhide HVk).cell (m := 0) rfl
            have k1 := (unhide HVk).cell (m := 1) rfl
            have o0 := (unhide HCk).cell (m := 0) rfl
            have o1 := (unhide HCk).cell (m := 1) rfl
            have kf := (unhide HCk).frozen
            generalize hx1 : (cn ps bs (i + 1)).1 = x1 at *
            generalize hy1 : (cn ps bs (i + 1)).2 = y1 at *
            have EX1 := hide hx1
            have EY1 := hide hy1
            clear hx1 hy1
            have HC3 : Hid (vb ((X2.setCell ⟨w.heap.size, 0, none⟩ (.int .i64 x1)).setCell ⟨w.heap.size, 1, none⟩ (.int .i64 y1)) w.heap.size 32 [.int .i64 x1, .int .i64 y1]) := hide (((unhide HCk).set 0 _).set 1 _)
            have HR3 : Hid (Row ((X2.setCell ⟨w.heap.size, 0, none⟩ (.int .i64 x1)).setCell ⟨w.heap.size, 1, none⟩ (.int .i64 y1)) (w.heap.size + 1) 32 2 (.slice (some ⟨g, 0, none⟩) (i + 1) cap) (i + 1) (fl2 (cns ps bs (i + 1)))) := hide (((unhide HRk).ne (by omega)).ne (by omega))
            have HB3 : Hid (Below w.heap.size w ((X2.setCell ⟨w.heap.size, 0, none⟩ (.int .i64 x1)).setCell ⟨w.heap.size, 1, none⟩ (.int .i64 y1))) := hide (((unhide HBk).setCell (by simp) _).setCell (by simp) _)
            have sz3 : w.heap.size + 1 < ((X2.setCell ⟨w.heap.size, 0, none⟩ (.int .i64 x1)).setCell ⟨w.heap.size, 1, none⟩ (.int .i64 y1)).heap.size := by simpa using szk
            go_wp2_with (at_builtin; refine unhide ?_)
            refine hide ?_
            generalize hX : ((X2.setCell ⟨w.heap.size, 0, none⟩ (.int .i64 x1)).setCell ⟨w.heap.size, 1, none⟩ (.int .i64 y1)) = X at *
            have HXS : Hid (X2.heap.size = X.heap.size) := hide (by rw [← hX]; simp)
            clear hX HCk HVk HRk HBk szk k0 k1 o0 o1 kf
            refine wpList_append_own _ rfl _ _ 26 rfl (w.heap.size + 1) 32 iP _ 2 16 Try.underlying26 hi1 hp0 hp1 hp2 rfl (by decide) _ _ _ rfl ((unhide HR3).below (ba (Below.refl _ _) _)) _ 1 1 ([x1, y1].map (Value.int .i64)) rfl rfl (by exact news_cells _ _ (unhide HXS)) ints_one (by unfold maxLen; omega) (by omega) (by first | omega | (simp; omega)) ?_
            intro v' wz hown' hgrow _
            obtain ⟨R4, B4⟩ := own_more (wr := X) (news := [x1, y1]) (by repeat (first | exact Below.refl _ _ | refine Below.alloc ?_ (by first | omega | (simp; omega)) _ | refine Below.drew ?_)) (by simp; omega) (unhide HR3) hown' hgrow
            have R5 : Hid (Row wz (w.heap.size + 1) 32 2 v' (i + 1 + 1) (fl2 (cns ps bs (i + 1 + 1)))) := hide (by rw [fl2_cns_succ ps bs (i + 1), unhide EX1, unhide EY1]; exact R4)
            have C5 : Hid (vb wz w.heap.size 32 [.int .i64 (cn ps bs (i + 1)).1, .int .i64 (cn ps bs (i + 1)).2]) := hide (by rw [unhide EX1, unhide EY1]; exact (unhide HC3).below B4 (by omega))
            have B5 := hide ((unhide HB3).trans (B4.mono (by omega)))
            have sz5 : w.heap.size + 1 < wz.heap.size := Nat.lt_of_lt_of_le sz3 B4.size
            clear hown' hgrow R4 B4
            go_wp2_with fail
            go_roundw
            case rel => first | exact ⟨i + 1, rfl, rfl, by simp, h, unhide B5, sz5, unhide C5, unhide R5, unhide HNX⟩ | ((repeat apply Exists.intro); refine ⟨?_, rfl⟩; exact ⟨i + 1, rfl, rfl, by simp, h, unhide B5, sz5, unhide C5, unhide R5, unhide HNX⟩)
            case measure => first | (simp only [intOf]; omega) | (simp [intOf]; omega)
    · have iz : decide ((i : Int) < (n : Int)) = false := decide_eq_false (by omega)
      obtain rfl : n = i := by omega
      go_wp2_with fail
      exact bodyPost_ret (v := .tuple #[u9, .int .i64 (-1)]) (by simp [results, Try.results38, go_sem]) rfl ⟨⟨_, by rw [fst_none (unhide HF)]; rfl, fun _ => (unhide HR).mono (by omega)⟩, unhide HW⟩
end Go.Proofs.Ytimkinpbimangaa

namespace Go.Proofs.Ytimkinpbimangaa
open Go.ChangeShapes Go.WideShapes Go.ChangeAt Go.RowKit
set_option linter.unusedVariables false
set_option linter.unusedSimpArgs false

set_option maxHeartbeats 4000000 in
set_option maxRecDepth 100000 in
theorem bnM_any (u v : Option Addr) (p po q qo n m cu cv : Nat) (ps bs : List Int) (w : World) (hl : ps.length = n) (hm : bs.length = m) (hn : n ≤ 1048576) (hm1 : m ≤ 1048576) (hu : Its w u p po ps) (hv : Its w v q qo bs) :
    Calls Try.prog 9 #[.slice u n cu, .slice v m cv] w fun e w' => (∃ r, e = .returned (.tuple #[r, .int .i64 (bnK ps bs).1, .int .i64 (bnK ps bs).2]) ∧ Row w' w.heap.size 32 2 r (bnL ps bs).length (fl2 (bnL ps bs))) ∧ Below w.heap.size w w' := by
  have n0 : (0 : Int) ≤ (n : Int) := Int.natCast_nonneg _
  have m0 : (0 : Int) ≤ (m : Int) := Int.natCast_nonneg _
  by_cases hL1 : 4096 < n
  · have HANS := hide (bn_long (ps := ps) (bs := bs) (by rw [hl, hm]; exact Or.inl hL1))
    have tL : decide ((4096 : Int) < (n : Int)) = true := decide_eq_true (by omega)
    clear hl hm hu hv
    go_enter Try.func9, Try.ntmps9
    go_wp2_with fail
    exact bodyPost_ret (v := .tuple #[.slice (some ⟨w.heap.size, 0, none⟩) 0 0, .int .i64 2, .int .i64 0]) (by simp [results, Try.results9, go_sem]) rfl ⟨⟨_, by rw [(unhide HANS).1], by rw [(unhide HANS).2]; exact row_made _ _ _ _ (Nat.le_refl _) _ rfl⟩, ba (Below.refl _ _) _⟩
  have tL1 : decide ((4096 : Int) < (n : Int)) = false := decide_eq_false (by omega)
  by_cases hL2 : 4096 < m
  · have HANS := hide (bn_long (ps := ps) (bs := bs) (by rw [hl, hm]; exact Or.inr hL2))
    have tL : decide ((4096 : Int) < (m : Int)) = true := decide_eq_true (by omega)
    clear hl hm hu hv
    go_enter Try.func9, Try.ntmps9
    go_wp2_with fail
    exact bodyPost_ret (v := .tuple #[.slice (some ⟨w.heap.size, 0, none⟩) 0 0, .int .i64 2, .int .i64 0]) (by simp [results, Try.results9, go_sem]) rfl ⟨⟨_, by rw [(unhide HANS).1], by rw [(unhide HANS).2]; exact row_made _ _ _ _ (Nat.le_refl _) _ rfl⟩, ba (Below.refl _ _) _⟩
  have tL2 : decide ((4096 : Int) < (m : Int)) = false := decide_eq_false (by omega)
  have hL' : ¬ (4096 < ps.length ∨ 4096 < bs.length) := by rw [hl, hm]; omega
  have HP := hide (pnM_any u p po n cu ps w hl (by omega) hu)
  have HC := hide (wi_any v q qo m cv bs (-1) 1 w hm (by omega) hv)
  have HST : Hid (stp ps bs = (pnl ps && decide ((m : Int) = (n : Int) - 1) && bs.all (inR (-1) 1))) := hide (by unfold stp; rw [hl, hm])
  have HBAD : Hid (stp ps bs = false → bnK ps bs = (1, 0) ∧ bnL ps bs = []) := hide (fun h => bn_bad hL' h)
  have HGOOD : Hid (stp ps bs = true → fstB ps bs n = none → bnK ps bs = (0, 0) ∧ bnL ps bs = cns ps bs (n + 1)) := hide (fun h hf => by rw [← hl] at hf ⊢; exact bn_good hL' h hf)
  have HMEET : Hid (stp ps bs = true → ∀ i, fstB ps bs n = some i → bnK ps bs = (13, (i : Int)) ∧ bnL ps bs = []) := hide (fun h i hf => by rw [← hl] at hf; exact bn_meet hL' h hf)
  have HCOR := hide (fun (h : stp ps bs = true) => stM_any u v p po q qo n m cu cv ps bs w hl hm h hu hv)
  clear hu hv hl hm hL1 hL2 hL'
  go_enter Try.func9, Try.ntmps9
  go_wp2_with fail
  refine (unhide HP).mono ?_
  rintro e w9 ⟨rfl, hq⟩
  rw [hq]
  clear hq w9
  cases hq1 : pnl ps with
  | false =>
    have HANS := hide (unhide HBAD (by rw [unhide HST, hq1]; rfl))
    go_wp2_with fail
    exact bodyPost_ret (v := .tuple #[.slice (some ⟨w.heap.size, 0, none⟩) 0 0, .int .i64 1, .int .i64 0]) (by simp [results, Try.results9, go_sem]) rfl ⟨⟨_, by rw [(unhide HANS).1], by rw [(unhide HANS).2]; exact row_made _ _ _ _ (Nat.le_refl _) _ rfl⟩, ba (Below.refl _ _) _⟩
  | true =>
    by_cases hq2 : (m : Int) = (n : Int) - 1
    rotate_left
    · have e2 : ((m : Int) != (n : Int) - 1) = true := by simp [hq2]
      have HANS := hide (unhide HBAD (by rw [unhide HST, hq1, decide_eq_false hq2]; rfl))
      go_wp2_with fail
      exact bodyPost_ret (v := .tuple #[.slice (some ⟨w.heap.size, 0, none⟩) 0 0, .int .i64 1, .int .i64 0]) (by simp [results, Try.results9, go_sem]) rfl ⟨⟨_, by rw [(unhide HANS).1], by rw [(unhide HANS).2]; exact row_made _ _ _ _ (Nat.le_refl _) _ rfl⟩, ba (Below.refl _ _) _⟩
    have e2 : ((m : Int) != (n : Int) - 1) = false := by simp [hq2]
    have d2 : decide ((m : Int) = (n : Int) - 1) = true := decide_eq_true hq2
    have HQ2 := hide hq2
    have nm : (m : Int) ≤ (n : Int) := by omega
    clear hq2
    go_wp2_with fail
    refine (unhide HC).mono ?_
    rintro e w9 ⟨rfl, hq⟩
    rw [hq]
    clear hq w9
    cases hq3 : bs.all (inR (-1) 1) with
    | false =>
      have HANS := hide (unhide HBAD (by rw [unhide HST, hq1, hq3]; simp))
      go_wp2_with fail
      exact bodyPost_ret (v := .tuple #[.slice (some ⟨w.heap.size, 0, none⟩) 0 0, .int .i64 1, .int .i64 0]) (by simp [results, Try.results9, go_sem]) rfl ⟨⟨_, by rw [(unhide HANS).1], by rw [(unhide HANS).2]; exact row_made _ _ _ _ (Nat.le_refl _) _ rfl⟩, ba (Below.refl _ _) _⟩
    | true =>
      have hs : stp ps bs = true := by rw [unhide HST, hq1, hq3, d2]; rfl
      have HS := hide hs
      clear hs hq1 hq3 d2 e2
      go_wp2_with fail
      refine (unhide HCOR (unhide HS)).mono ?_
      rintro e W1 ⟨⟨r, rfl, hr⟩, hb1⟩
      have HR := hide hr
      have HB1 := hide hb1
      clear hr hb1
      cases hf : fstB ps bs n with
      | none =>
        have HANS := hide (unhide HGOOD (unhide HS) hf)
        have HR2 := hide (unhide HR hf)
        have t0 : fstM none = -1 := rfl
        rw [t0]
        go_wp2_with fail
        exact bodyPost_ret (v := .tuple #[r, .int .i64 0, .int .i64 0]) (by simp [results, Try.results9, go_sem]) rfl ⟨⟨_, by rw [(unhide HANS).1], by rw [(unhide HANS).2, cns_len]; exact unhide HR2⟩, unhide HB1⟩
      | some i =>
        have HANS := hide (unhide HMEET (unhide HS) i hf)
        have t0 : fstM (some i) = (i : Int) := rfl
        rw [t0]
        have t1 : decide ((0 : Int) ≤ (i : Int)) = true := decide_eq_true (by omega)
        have t2 : (0 : Int) ≤ (i : Int) := by omega
        clear hf
        go_wp2_with fail
        exact bodyPost_ret (v := .tuple #[.slice (some ⟨W1.heap.size, 0, none⟩) 0 0, .int .i64 13, .int .i64 (i : Int)]) (by simp [results, Try.results9, go_sem]) rfl ⟨⟨_, by rw [(unhide HANS).1], by rw [(unhide HANS).2]; exact row_made _ _ _ _ ((unhide HB1).size) _ rfl⟩, ba (unhide HB1) _⟩
end Go.Proofs.Ytimkinpbimangaa

namespace Go.Proofs.Ytimkinpbimangaa
open Go.ChangeShapes Go.WideShapes Go.ChangeAt Go.RowKit
set_option linter.unusedVariables false
set_option linter.unusedSimpArgs false

set_option maxHeartbeats 1000000 in
theorem lngP_any (s : Fc) (a b : Int) (w : World) (hs : Bd3 s) (ha : -9223372036854775808 ≤ a ∧ a ≤ 9223372036854775807) (hb : -9223372036854775808 ≤ b ∧ b ≤ 9223372036854775807) (hc : frCode a b = 0) :
    Calls Try.prog 44 #[.agg #[.int .i64 s.1, .int .i64 s.2.1], .int .i64 s.2.2, .int .i64 a, .int .i64 b] w fun e w' => e = .returned (tp3 (lng s a b)) ∧ Below w.heap.size w w' := by
  by_cases hz : s.2.2 = 0
  · have HO := hide (fun W => implOf_any a b W ha.1 ha.2 hb.1 hb.2)
    have HA := hide (fun W => implAdd_any s.1 s.2.1 (frN a b) (frD a b) W (by have := hs.1; omega) (by have := hs.1; omega) (by have := hs.2.1; omega) (by have := hs.2.1; omega) (by have := wf_N a b; omega) (by have := wf_N a b; omega) (by have := wf_D a b; omega) (by have := wf_D a b; omega))
    rw [lng_go hz]
    unfold frAns at HO
    simp only [pair_tp3] at HA
    rw [hc] at HO
    generalize add3 s.1 s.2.1 (frN a b) (frD a b) = q at *
    generalize frN a b = X at *
    generalize frD a b = Y at *
    obtain ⟨n, d, c⟩ := s
    obtain ⟨q1, q2, q3⟩ := q
    simp only at hz
    subst hz
    unfold tp3 at *
    simp only at *
    clear hs hc ha hb
    go_enter Try.func44, Try.ntmps44
    go_wp2_with fail
    refine (unhide HO _).mono ?_
    rintro e W ⟨rfl, hW⟩
    have c0 := keep1 hW (b := w.heap.size) (o := 0) (v := .int .i64 n) (by simp [go_sem])
    have c1 := keep1 hW (b := w.heap.size) (o := 1) (v := .int .i64 d) (by simp [go_sem])
    have c2 := keep1 hW (b := w.heap.size + 1) (o := 0) (v := .int .i64 0) (by simp [go_sem])
    have c3 := keep1 hW (b := w.heap.size + 1) (o := 1) (v := .int .i64 0) (by simp [go_sem])
    have l0 := cell_lt c0
    have l2 := cell_lt c2
    have f2 : ∀ o, W.frozen? ⟨w.heap.size + 1, o, none⟩ = false := fun o => keepz hW (by simp) (by simp [go_sem])
    have HW := hide (bc (ba (ba (Below.refl _ _) _) _) hW)
    clear hW
    go_wp2_with fail
    refine (unhide HA _).mono ?_
    rintro e W1 ⟨rfl, hW1⟩
    have c2 := keep1 hW1 (b := w.heap.size + 1) (o := 0) (v := .int .i64 0) (ka c2)
    have c3 := keep1 hW1 (b := w.heap.size + 1) (o := 1) (v := .int .i64 0) (ka c3)
    have l2 := cell_lt c2
    have f2 : ∀ o, W1.frozen? ⟨w.heap.size + 1, o, none⟩ = false := fun o => keepz hW1 (by simp; omega) (by simp [go_sem, *])
    have HW1 := hide (bc (ba (unhide HW) _) hW1)
    clear hW1 HW
    go_wp2_with fail
    exact bodyPost_ret (v := .tuple #[.agg #[.int .i64 q1, .int .i64 q2], .int .i64 q3]) (by simp [results, Try.results44, go_sem, *]) rfl ⟨rfl, ((unhide HW1).setCell (by simp) _).setCell (by simp) _⟩
  · rw [lng_stop hz]
    obtain ⟨n, d, c⟩ := s
    simp only at hz
    have t : (c != 0) = true := by simp [hz]
    unfold tp3
    simp only
    clear hs ha hb hc
    go_enter Try.func44, Try.ntmps44
    go_wp2_with fail
    exact bodyPost_ret (v := .tuple #[.agg #[.int .i64 0, .int .i64 0], .int .i64 c]) (by simp [results, Try.results44, go_sem]) rfl ⟨rfl, ba (ba (Below.refl _ _) _) _⟩

set_option maxHeartbeats 2000000 in
set_option maxRecDepth 100000 in
theorem flP_any (u v : Option Addr) (p po q qo n m cu cv : Nat) (ps al : List Int) (r t : Int) (w : World) (hl : ps.length = n) (hm : al.length = m) (hn : n ≤ 1048576) (hm1 : m ≤ 1048576) (hu : Its w u p po ps) (hv : Its w v q qo al) :
    Calls Try.prog 15 #[.slice u n cu, .slice v m cv, .int .i64 r, .int .i64 t] w fun e w' => e = .returned (tp3 (flA ps al r t)) ∧ Below w.heap.size w w' := by
  have n0 : (0 : Int) ≤ (n : Int) := Int.natCast_nonneg _
  have m0 : (0 : Int) ≤ (m : Int) := Int.natCast_nonneg _
  by_cases hL : 4096 < n ∨ 4096 < m
  · have HANS : Hid (flA ps al r t = (0, 0, 2)) := hide (by unfold flA; rw [hl, hm, if_pos hL])
    have tL : decide ((4096 : Int) < max (n : Int) (m : Int)) = true := decide_eq_true (by omega)
    clear hl hm hu hv
    go_enter Try.func15, Try.ntmps15
    go_wp2_with fail
    exact bodyPost_ret (v := .tuple #[.agg #[.int .i64 0, .int .i64 0], .int .i64 2]) (by simp [results, Try.results15, go_sem]) rfl ⟨by rw [unhide HANS]; rfl, ba (Below.refl _ _) _⟩
  have tL : decide ((4096 : Int) < max (n : Int) (m : Int)) = false := decide_eq_false (by omega)
  have HP := hide (fun W (hW : Below w.heap.size w W) => pnP_any u p po n cu ps W hl (by omega) (hu.bel hW))
  have HC := hide (fun W (hW : Below w.heap.size w W) => cnf42_any v q qo m cv al W hm (by omega) (hv.bel hW))
  have HANS : Hid (flA ps al r t = if (pnl ps && decide ((m : Int) = (n : Int) - 1) && al.all (inR 0 180) && inR 0 1000 r && inR 0 1000 t) = true then lenA (lenP ps) r t al else (0, 0, 1)) := hide (by unfold flA flOk; rw [hl, hm, if_neg hL])
  have HU := hide hu
  have HV := hide hv
  have HL := hide hl
  have HM := hide hm
  clear hu hv hl hm
  have HW0 := hide (ba (Below.refl w.heap.size w) (.cells #[.int .i64 0, .int .i64 0] 38))
  go_enter Try.func15, Try.ntmps15
  go_wp2_with fail
  refine (unhide HP _ (unhide HW0)).mono ?_
  rintro e w' ⟨rfl, rfl⟩
  cases hq1 : pnl ps with
  | false =>
    go_wp2_with fail
    exact bodyPost_ret (v := .tuple #[.agg #[.int .i64 0, .int .i64 0], .int .i64 1]) (by simp [results, Try.results15, go_sem]) rfl ⟨by rw [unhide HANS, if_neg (by simp [*])]; rfl, ba (Below.refl _ _) _⟩
  | true =>
    by_cases hq2 : (m : Int) = (n : Int) - 1
    rotate_left
    · have e2 : ((m : Int) == (n : Int) - 1) = false := by simp [hq2]
      go_wp2_with fail
      exact bodyPost_ret (v := .tuple #[.agg #[.int .i64 0, .int .i64 0], .int .i64 1]) (by simp [results, Try.results15, go_sem]) rfl ⟨by rw [unhide HANS, if_neg (by simp [*])]; rfl, ba (Below.refl _ _) _⟩
    have e2 : ((m : Int) == (n : Int) - 1) = true := by simp [hq2]
    have HQ2 := hide hq2
    have nm : (m : Int) ≤ (n : Int) := by omega
    have d2 : decide ((m : Int) = (n : Int) - 1) = true := decide_eq_true hq2
    clear hq2
    go_wp2_with fail
    refine (unhide HC _ (unhide HW0)).mono ?_
    rintro e w' ⟨rfl, rfl⟩
    cases hq3 : al.all (inR 0 180) with
    | false =>
      go_wp2_with fail
      exact bodyPost_ret (v := .tuple #[.agg #[.int .i64 0, .int .i64 0], .int .i64 1]) (by simp [results, Try.results15, go_sem]) rfl ⟨by rw [unhide HANS, if_neg (by simp [*])]; rfl, ba (Below.refl _ _) _⟩
    | true =>
      go_wp2_with fail
      refine (bt_any r 0 1000 _).mono ?_
      rintro e w' ⟨rfl, rfl⟩
      cases hq4 : inR 0 1000 r with
      | false =>
        go_wp2_with fail
        exact bodyPost_ret (v := .tuple #[.agg #[.int .i64 0, .int .i64 0], .int .i64 1]) (by simp [results, Try.results15, go_sem]) rfl ⟨by rw [unhide HANS, if_neg (by simp [*])]; rfl, ba (Below.refl _ _) _⟩
      | true =>
        go_wp2_with fail
        refine (bt_any t 0 1000 _).mono ?_
        rintro e w' ⟨rfl, rfl⟩
        cases hq5 : inR 0 1000 t with
        | false =>
          go_wp2_with fail
          exact bodyPost_ret (v := .tuple #[.agg #[.int .i64 0, .int .i64 0], .int .i64 1]) (by simp [results, Try.results15, go_sem]) rfl ⟨by rw [unhide HANS, if_neg (by simp [*])]; rfl, ba (Below.refl _ _) _⟩
        | true =>
          have HA2 : Hid (flA ps al r t = lenA (lenP ps) r t al) := hide (by rw [unhide HANS, hq1, hq3, hq4, hq5, d2]; rfl)
          have HPS : Hid (∀ x ∈ ps, 1 ≤ x ∧ x ≤ 1000) := hide (fun x hx => by
            unfold pnl at hq1
            simp only [Bool.and_eq_true] at hq1
            exact inR_iff.1 (List.all_eq_true.1 hq1.2 x hx))
          have HAL : Hid (∀ x ∈ al, 0 ≤ x ∧ x ≤ 180) := hide (fun x hx => inR_iff.1 (List.all_eq_true.1 hq3 x hx))
          obtain ⟨r0, r1⟩ := inR_iff.1 hq4
          obtain ⟨t0, t1⟩ := inR_iff.1 hq5
          have HG : ∀ g, Hid (g = w.heap.size + 1 → True) := fun g => hide fun _ => trivial
          clear HANS hq1 hq3 hq4 hq5 d2 e2 HP HC HG
          go_wp2_with fail
          go_loopw [53, 12] (fun s c W => ∃ (i : Nat) (f : Fc), s = .int .i64 (i : Int) ∧ i ≤ n ∧ f = lenP (ps.take i) ∧ c = .int .i64 f.2.2 ∧ Below w.heap.size w W ∧ w.heap.size + 1 < W.heap.size ∧ W.cell? ⟨w.heap.size + 1, 0, none⟩ = some (.int .i64 f.1) ∧ W.cell? ⟨w.heap.size + 1, 1, none⟩ = some (.int .i64 f.2.1) ∧ (∀ o, W.frozen? ⟨w.heap.size + 1, o, none⟩ = false) ∧ W.cell? ⟨w.heap.size, 0, none⟩ = some (.int .i64 0) ∧ W.cell? ⟨w.heap.size, 1, none⟩ = some (.int .i64 0) ∧ ∀ o, W.frozen? ⟨w.heap.size, o, none⟩ = false) (fun s _ _ => n - (intOf s).toNat)
          case atStart => exact ⟨0, (0, 1, 0), rfl, Nat.zero_le _, rfl, rfl, ba (unhide HW0) _, by simp, by simp [go_sem], by simp [go_sem], by simp [go_sem], by simp [go_sem], by simp [go_sem], by simp [go_sem]⟩
          case round =>
            obtain ⟨i, f, rfl, hi, hf, rfl, hW, hg, c0, c1, fz, z0, z1, zf⟩ := hrel
            have HBD : Hid (Bd3 f) := hide (by rw [hf]; exact lenP_bd _)
            have HF := hide hf
            have HW := hide hW
            clear hf hW
            by_cases h : i < n
            · have i1 : (i : Int) < (n : Int) := by omega
              have i0 : (0 : Int) ≤ (i : Int) := Int.natCast_nonneg _
              have iz : decide ((i : Int) < (n : Int)) = true := decide_eq_true i1
              obtain ⟨x, hx⟩ := get_some (unhide HL) h
              obtain ⟨rfl, pw, k0⟩ := ((unhide HU).bel (unhide HW)).at hx
              have xb := unhide HPS x (List.mem_of_getElem? hx)
              have HST := hide (show lng f x 1 = lenP (ps.take (i + 1)) from by rw [unhide HF]; unfold lenP; rw [fold_take _ _ hx])
              skip
              have HR := hide (fun W => lngP_any f x 1 W (unhide HBD) (by omega) (by omega) (fr_whole x (by omega) (by omega)).2.2)
              generalize hf2 : lng f x 1 = f2 at HR HST
              have HB2 : Hid (Bd3 f2) := hide (by rw [← hf2]; exact lng_bd (unhide HBD) _ _)
              obtain ⟨f0, f1, f3⟩ := f
              obtain ⟨g0, g1, g3⟩ := f2
              unfold tp3 at HR
              simp only at HR c0 c1
              clear hf2 hx xb HBD
              go_wp2_with fail
              refine (unhide HR _).mono ?_
              rintro e W1 ⟨rfl, hW1⟩
              have c0 := keep1 hW1 c0
              have c1 := keep1 hW1 c1
              have z0 := keep1 hW1 z0
              have z1 := keep1 hW1 z1
              have fz : ∀ o, W1.frozen? ⟨w.heap.size + 1, o, none⟩ = false := fun o => keepz hW1 (by omega) (fz o)
              have zf : ∀ o, W1.frozen? ⟨w.heap.size, o, none⟩ = false := fun o => keepz hW1 (by omega) (zf o)
              have hg := Nat.lt_of_lt_of_le hg hW1.size
              have HW1 := hide ((unhide HW).trans (hW1.mono (unhide HW).size))
              clear hW1
              go_wp2_with fail
              go_roundw
              case rel => exact ⟨i + 1, (g0, g1, g3), by simp, h, unhide HST, rfl, ((unhide HW1).setCell (by simp) _).setCell (by simp) _, by simpa using hg, by simp [go_sem, *], by simp [go_sem, *], by simp [go_sem, *], by simp [go_sem, *], by simp [go_sem, *], by simp [go_sem, *]⟩
              case measure => simp only [intOf]; omega
            · have iz : decide ((i : Int) < (n : Int)) = false := decide_eq_false (by omega)
              have HF : Hid (f = lenP ps) := hide (by rw [unhide HF, List.take_of_length_le (by rw [unhide HL]; omega)])
              go_wp2_with fail
              go_loopw [67, 12] (fun s c W => ∃ (i : Nat) (f : Fc), s = .int .i64 (i : Int) ∧ i ≤ m ∧ f = lenA (lenP ps) r t (al.take i) ∧ c = .int .i64 f.2.2 ∧ Below w.heap.size w W ∧ w.heap.size + 1 < W.heap.size ∧ W.cell? ⟨w.heap.size + 1, 0, none⟩ = some (.int .i64 f.1) ∧ W.cell? ⟨w.heap.size + 1, 1, none⟩ = some (.int .i64 f.2.1) ∧ (∀ o, W.frozen? ⟨w.heap.size + 1, o, none⟩ = false) ∧ W.cell? ⟨w.heap.size, 0, none⟩ = some (.int .i64 0) ∧ W.cell? ⟨w.heap.size, 1, none⟩ = some (.int .i64 0) ∧ ∀ o, W.frozen? ⟨w.heap.size, o, none⟩ = false) (fun s _ _ => m - (intOf s).toNat)
              case atStart => exact ⟨0, f, rfl, Nat.zero_le _, unhide HF, rfl, unhide HW, hg, c0, c1, fz, z0, z1, zf⟩
              case round =>
                clear hi iz h HF HW hg c0 c1 fz z0 z1 zf HBD
                obtain ⟨i, f, rfl, hi, hf, rfl, hW, hg, c0, c1, fz, z0, z1, zf⟩ := hrel
                have HBD : Hid (Bd3 f) := hide (by rw [hf]; exact lenA_bd (lenP_bd _) _ _ _)
                have HF := hide hf
                have HW := hide hW
                clear hf hW
                by_cases h : i < m
                · have i1 : (i : Int) < (m : Int) := by omega
                  have i0 : (0 : Int) ≤ (i : Int) := Int.natCast_nonneg _
                  have iz : decide ((i : Int) < (m : Int)) = true := decide_eq_true i1
                  obtain ⟨x, hx⟩ := get_some (unhide HM) h
                  obtain ⟨rfl, pw, k0⟩ := ((unhide HV).bel (unhide HW)).at hx
                  have xb := unhide HAL x (List.mem_of_getElem? hx)
                  have HST := hide (show lng f (itm r t x) 1260 = lenA (lenP ps) r t (al.take (i + 1)) from by rw [unhide HF]; unfold lenA; rw [fold_take _ _ hx])
                  obtain ⟨⟨b1, b2⟩, ⟨b3, b4⟩, b5, b6⟩ := itm_bd xb ⟨r0, r1⟩ ⟨t0, t1⟩
                  have w1 : IntKind.i64.wrap (2 * r) = 2 * r := wrap_i (by omega) (by omega)
                  have w2 : IntKind.i64.wrap (2 * r + t) = 2 * r + t := wrap_i (by omega) (by omega)
                  have w3 : IntKind.i64.wrap (x * (2 * r + t)) = x * (2 * r + t) := wrap_i (by omega) (by omega)
                  have w4 : IntKind.i64.wrap (x * (2 * r + t) * 11) = itm r t x := wrap_i (by omega) (by unfold itm at b6; omega)
                  have HR := hide (fun W => lngP_any f (itm r t x) 1260 W (unhide HBD) (by have := (itm_bd xb ⟨r0, r1⟩ ⟨t0, t1⟩).2.2; omega) (by omega) (itm_code (itm_bd xb ⟨r0, r1⟩ ⟨t0, t1⟩).2.2))
                  generalize hf2 : lng f (itm r t x) 1260 = f2 at HR HST
                  have HB2 : Hid (Bd3 f2) := hide (by rw [← hf2]; exact lng_bd (unhide HBD) _ _)
                  obtain ⟨f0, f1, f3⟩ := f
                  obtain ⟨g0, g1, g3⟩ := f2
                  unfold tp3 at HR
                  simp only at HR c0 c1
                  clear hf2 hx xb HBD
                  go_wp2_with fail
                  refine (unhide HR _).mono ?_
                  rintro e W1 ⟨rfl, hW1⟩
                  have c0 := keep1 hW1 c0
                  have c1 := keep1 hW1 c1
                  have z0 := keep1 hW1 z0
                  have z1 := keep1 hW1 z1
                  have fz : ∀ o, W1.frozen? ⟨w.heap.size + 1, o, none⟩ = false := fun o => keepz hW1 (by omega) (fz o)
                  have zf : ∀ o, W1.frozen? ⟨w.heap.size, o, none⟩ = false := fun o => keepz hW1 (by omega) (zf o)
                  have hg := Nat.lt_of_lt_of_le hg hW1.size
                  have HW1 := hide ((unhide HW).trans (hW1.mono (unhide HW).size))
                  clear hW1
                  go_wp2_with fail
                  go_roundw
                  case rel => exact ⟨i + 1, (g0, g1, g3), by simp, h, unhide HST, rfl, ((unhide HW1).setCell (by simp) _).setCell (by simp) _, by simpa using hg, by simp [go_sem, *], by simp [go_sem, *], by simp [go_sem, *], by simp [go_sem, *], by simp [go_sem, *], by simp [go_sem, *]⟩
                  case measure => simp only [intOf]; omega
                · have iz : decide ((i : Int) < (m : Int)) = false := decide_eq_false (by omega)
                  have HF : Hid (f = lenA (lenP ps) r t al) := hide (by rw [unhide HF, List.take_of_length_le (by rw [unhide HM]; omega)])
                  have HBZ := hide (lenA_bd (lenP_bd ps) r t al)
                  obtain ⟨f0, f1, f3⟩ := f
                  simp only at c0 c1
                  go_wp2_with fail
                  exact bodyPost_ret (v := .tuple #[.agg #[.int .i64 f0, .int .i64 f1], .int .i64 f3]) (by simp [results, Try.results15, go_sem, *]) rfl ⟨by rw [unhide HA2, ← unhide HF]; rfl, ((unhide HW).setCell (by simp) _).setCell (by simp) _⟩
end Go.Proofs.Ytimkinpbimangaa

namespace Go.Proofs.Ytimkinpbimangaa
open Go.ChangeShapes Go.WideShapes Go.ChangeAt Go.RowKit
set_option linter.unusedVariables false
set_option linter.unusedSimpArgs false

noncomputable def rg16 (id : Nat) : Go.Code := match Try.f16.body with | some c => (regOfZ id c).getD .skip | none => .skip
set_option maxHeartbeats 4000000 in
set_option maxRecDepth 100000 in
theorem fl10 {s1 s2 s3 s4 s5 s6 s7 s8 s9 s11 s13 s14 s15 s16 s17 s18 s19 s20 s21 s22 s23 s24 s25 s26 s27 s28 s29 s30 s31 s32 s33 s34 s35 s36 s37 s38 s39 s40 s41 s42 s43 s44 s45 s46 s47 s48 s49 s50 s51 s52 s53 s54 s55 s56 s57 s58 s59 s60 s61 s62 s63 s64 s65 s66 s67 s68 s69 s70 s71 s72 s73 s74 s75 s76 s77 s78 s79 s80 s81 s82 s83 s84 s85 s86 s87 s88 s89 s90 s91 s92 s93 s94 s95 s96 s97 s98 s99 s100 s101 s102 s103 s104 s105 s106 s107 s108 : Value} {pb po n cu g i : Nat} {f0 f1 x a0 a1 a3 : Int} {V : World} {K_ : Act → World → Prop} 
    (HS0 : Hid (V.cell? ⟨g, 0, none⟩ = some (.int .i64 (f0)))) (HS1 : Hid (V.cell? ⟨g, 1, none⟩ = some (.int .i64 (f1)))) (HC : Hid (V.cell? ⟨pb, po + i, none⟩ = some (.int .i64 (x)))) (hbO : g < V.heap.size) {oo0 : Value} (HO0 : Hid (V.cell? ⟨g, 0, none⟩ = some oo0)) {oo1 : Value} (HO1 : Hid (V.cell? ⟨g, 1, none⟩ = some oo1)) (HOf : Hid (∀ o, V.frozen? ⟨g, o, none⟩ = false))
    (HX3 : Hid (i < n))
    (HF5 : Hid (∀ Xw, Below V.heap.size V Xw → Calls Try.prog 45 #[.int .i64 (x)] Xw fun e w' => e = .returned (.agg #[.int .i64 (x), .int .i64 (1)]) ∧ Below Xw.heap.size Xw w'))
    (HF6 : Hid (∀ Xw, Below V.heap.size V Xw → Calls Try.prog 46 #[.agg #[.int .i64 (f0), .int .i64 (f1)], .agg #[.int .i64 (x), .int .i64 (1)]] Xw fun e w' => e = .returned (.tuple #[.agg #[.int .i64 (a0), .int .i64 (a1)], .int .i64 (a3)]) ∧ Below Xw.heap.size Xw w'))
    (hQ : ∀ (W1 W9 : World), W9 = ((W1.setCell ⟨g, 0, none⟩ (.int .i64 (a0))).setCell ⟨g, 1, none⟩ (.int .i64 (a1))) → Below V.heap.size V W1 → K_ { tmps := #[.slice (some ⟨pb, po, none⟩) n cu, s1, s2, s3, s4, s5, s6, s7, s8, s9, .pointer (some ⟨g, 0, none⟩), .int .i64 (a3), .int .i64 (i : Int), s13, s14, s15, s16, s17, s18, s19, s20, s21, s22, s23, s24, s25, s26, s27, s28, s29, s30, s31, s32, s33, s34, s35, s36, s37, s38, s39, s40, s41, s42, s43, s44, s45, s46, s47, s48, s49, s50, s51, s52, s53, s54, s55, s56, s57, s58, s59, .tuple #[.agg #[.int .i64 (a0), .int .i64 (a1)], .int .i64 (a3)], .agg #[.int .i64 (f0), .int .i64 (f1)], .slice (some ⟨pb, po, none⟩) n cu, .int .i64 (i : Int), .pointer (some ⟨pb, po + i, none⟩), .int .i64 (x), .agg #[.int .i64 (x), .int .i64 (1)], .tuple #[.agg #[.int .i64 (a0), .int .i64 (a1)], .int .i64 (a3)], .agg #[.int .i64 (a0), .int .i64 (a1)], .int .i64 (a3), s70, s71, s72, s73, s74, s75, s76, s77, s78, s79, s80, s81, s82, s83, s84, s85, s86, s87, s88, s89, s90, s91, s92, s93, s94, s95, s96, s97, s98, s99, s100, s101, s102, s103, s104, s105, s106, s107, s108], defers := [] } W9) :
    Go.Code.wp Try.prog (rg16 10) (Only K_) { tmps := #[.slice (some ⟨pb, po, none⟩) n cu, s1, s2, s3, s4, s5, s6, s7, s8, s9, .pointer (some ⟨g, 0, none⟩), s11, .int .i64 (i : Int), s13, s14, s15, s16, s17, s18, s19, s20, s21, s22, s23, s24, s25, s26, s27, s28, s29, s30, s31, s32, s33, s34, s35, s36, s37, s38, s39, s40, s41, s42, s43, s44, s45, s46, s47, s48, s49, s50, s51, s52, s53, s54, s55, s56, s57, s58, s59, s60, s61, s62, s63, s64, s65, s66, s67, s68, s69, s70, s71, s72, s73, s74, s75, s76, s77, s78, s79, s80, s81, s82, s83, s84, s85, s86, s87, s88, s89, s90, s91, s92, s93, s94, s95, s96, s97, s98, s99, s100, s101, s102, s103, s104, s105, s106, s107, s108], defers := [] } V := by
  have HQ := hide hQ
  clear hQ
  conv => arg 2; whnf
  refine wp_region_inv2 (fun Lb A W => ∃ (u0 u1 u2 u3 u4 u5 u6 u7 u8 u9 u10 u11 : Bool) (dm : Nat), Lb = #[u0, u1, u2, u3, u4, u5, u6, u7, u8, u9, u10, u11] ∧ A = ({ tmps := #[.slice (some ⟨pb, po, none⟩) n cu, s1, s2, s3, s4, s5, s6, s7, s8, s9, .pointer (some ⟨g, 0, none⟩), (bif u11 then .int .i64 (a3) else s11), .int .i64 (i : Int), s13, s14, s15, s16, s17, s18, s19, s20, s21, s22, s23, s24, s25, s26, s27, s28, s29, s30, s31, s32, s33, s34, s35, s36, s37, s38, s39, s40, s41, s42, s43, s44, s45, s46, s47, s48, s49, s50, s51, s52, s53, s54, s55, s56, s57, s58, s59, (bif u7 then .tuple #[.agg #[.int .i64 (a0), .int .i64 (a1)], .int .i64 (a3)] else s60), (bif u0 then .agg #[.int .i64 (f0), .int .i64 (f1)] else s61), (bif u1 then .slice (some ⟨pb, po, none⟩) n cu else s62), (bif u2 then .int .i64 (i : Int) else s63), (bif u3 then .pointer (some ⟨pb, po + i, none⟩) else s64), (bif u4 then .int .i64 (x) else s65), (bif u5 then .agg #[.int .i64 (x), .int .i64 (1)] else s66), (bif u6 then .tuple #[.agg #[.int .i64 (a0), .int .i64 (a1)], .int .i64 (a3)] else s67), (bif u8 then .agg #[.int .i64 (a0), .int .i64 (a1)] else s68), (bif u9 then .int .i64 (a3) else s69), s70, s71, s72, s73, s74, s75, s76, s77, s78, s79, s80, s81, s82, s83, s84, s85, s86, s87, s88, s89, s90, s91, s92, s93, s94, s95, s96, s97, s98, s99, s100, s101, s102, s103, s104, s105, s106, s107, s108], defers := [] } : Act) ∧ (u10 = false → Below V.heap.size V W) ∧ (u10 = true → ∃ W1, Below V.heap.size V W1 ∧ W = ((W1.setCell ⟨g, 0, none⟩ (.int .i64 (a0))).setCell ⟨g, 1, none⟩ (.int .i64 (a1)))) ∧ (u3 = true → u1 = true ∧ u2 = true) ∧ (u4 = true → u3 = true) ∧ (u5 = true → u4 = true) ∧ (u6 = true → u0 = true ∧ u5 = true) ∧ (u7 = true → u6 = true) ∧ (u8 = true → u7 = true) ∧ (u10 = true → u8 = true) ∧ (u11 = true → u0 = true ∧ u1 = true ∧ u2 = true ∧ u3 = true ∧ u4 = true ∧ u5 = true ∧ u6 = true ∧ u7 = true ∧ u8 = true ∧ u9 = true ∧ u10 = true)) (by kernel_rfl) (by kernel_rfl) ?h0 ?hstep ?hend
  case h0 =>
    exact ⟨false, false, false, false, false, false, false, false, false, false, false, false, 0, rfl, rfl, (fun _ => Below.drew (Below.refl _ _)), zf, zf, zf, zf, zf, zf, zf, zf, zf⟩
  case hstep =>
    intro Lb A W hI
    obtain ⟨u0, u1, u2, u3, u4, hI⟩ := hI
    obtain ⟨u5, u6, u7, u8, u9, hI⟩ := hI
    obtain ⟨u10, u11, dm, hI⟩ := hI
    obtain ⟨hLb, hI⟩ := hI
    obtain ⟨hA, hI⟩ := hI
    obtain ⟨kB, hI⟩ := hI
    obtain ⟨kZ, hI⟩ := hI
    obtain ⟨l3, hI⟩ := hI
    obtain ⟨l4, hI⟩ := hI
    obtain ⟨l5, hI⟩ := hI
    obtain ⟨l6, hI⟩ := hI
    obtain ⟨l7, hI⟩ := hI
    obtain ⟨l8, hI⟩ := hI
    obtain ⟨l10, hI⟩ := hI
    have kF := hI
    clear hI
    subst hLb
    subst hA
    replace kB := hide kB
    replace kZ := hide kZ
    replace l3 := hide l3
    replace l4 := hide l4
    replace l5 := hide l5
    replace l6 := hide l6
    replace l7 := hide l7
    replace l8 := hide l8
    replace l10 := hide l10
    replace kF := hide kF
    refine ⟨?_, ?_, ?_, ?_, ?_, ?_, ?_, ?_, ?_, ?_, ?_, ?_, trivial⟩
    · intro h0 hd K hK
      have z : u0 = false := h0
      have z11_ : u11 = false := znb fun hu => z.symm.trans ((zu kF hu).1)
      have z10_ : u10 = false := znb fun hu => z.symm.trans ((zu l6 (zu l7 (zu l8 (zu l10 hu)))).1)
      subst z11_
      subst z10_
      subst z
      clear h0 hd
      rw [if_pos (by rfl)]
      have c0 := keep1 (zu kB rfl) (unhide HS0)
      have c1 := keep1 (zu kB rfl) (unhide HS1)
      go_simp
      exact unhide hK _ _ ⟨true, u1, u2, u3, u4, u5, u6, u7, u8, u9, false, false, dm, rfl, rfl, zu kB, zf, zu l3, zu l4, zu l5, (fun h => ⟨rfl, (zu l6 h).2⟩), zu l7, zu l8, zf, zf⟩
    · intro h0 hd K hK
      have z : u1 = false := h0
      have z11_ : u11 = false := znb fun hu => z.symm.trans ((zu kF hu).2.1)
      have z10_ : u10 = false := znb fun hu => z.symm.trans ((zu l3 (zu l4 (zu l5 (zu l6 (zu l7 (zu l8 (zu l10 hu)))).2))).1)
      subst z11_
      subst z10_
      subst z
      clear h0 hd
      rw [if_pos (by rfl)]
      go_simp
      exact unhide hK _ _ ⟨u0, true, u2, u3, u4, u5, u6, u7, u8, u9, false, false, dm, rfl, rfl, zu kB, zf, (fun h => ⟨rfl, (zu l3 h).2⟩), zu l4, zu l5, zu l6, zu l7, zu l8, zf, zf⟩
    · intro h0 hd K hK
      have z : u2 = false := h0
      have z11_ : u11 = false := znb fun hu => z.symm.trans ((zu kF hu).2.2.1)
      have z10_ : u10 = false := znb fun hu => z.symm.trans ((zu l3 (zu l4 (zu l5 (zu l6 (zu l7 (zu l8 (zu l10 hu)))).2))).2)
      subst z11_
      subst z10_
      subst z
      clear h0 hd
      rw [if_pos (by rfl)]
      go_simp
      exact unhide hK _ _ ⟨u0, u1, true, u3, u4, u5, u6, u7, u8, u9, false, false, dm, rfl, rfl, zu kB, zf, (fun h => ⟨(zu l3 h).1, rfl⟩), zu l4, zu l5, zu l6, zu l7, zu l8, zf, zf⟩
    · intro h0 hd K hK
      have z : u3 = false := h0
      have z11_ : u11 = false := znb fun hu => z.symm.trans ((zu kF hu).2.2.2.1)
      have z10_ : u10 = false := znb fun hu => z.symm.trans ((zu l4 (zu l5 (zu l6 (zu l7 (zu l8 (zu l10 hu)))).2)))
      have zd : u1 = true ∧ u2 = true := by
        simp [Region.binds] at hd
        simp [hd]
      obtain ⟨rfl, rfl⟩ := zd
      subst z11_
      subst z10_
      subst z
      clear h0 hd
      rw [if_pos (by rfl)]
      have q1 : i < n := unhide HX3
      have q2 : (i : Int) < (n : Int) := by omega
      go_simp
      exact unhide hK _ _ ⟨u0, true, true, true, u4, u5, u6, u7, u8, u9, false, false, dm, rfl, rfl, zu kB, zf, (fun _ => ⟨rfl, rfl⟩), (fun h => rfl), zu l5, zu l6, zu l7, zu l8, zf, zf⟩
    · intro h0 hd K hK
      have z : u4 = false := h0
      have z11_ : u11 = false := znb fun hu => z.symm.trans ((zu kF hu).2.2.2.2.1)
      have z10_ : u10 = false := znb fun hu => z.symm.trans ((zu l5 (zu l6 (zu l7 (zu l8 (zu l10 hu)))).2))
      have zd : u3 = true := by
        simp [Region.binds] at hd
        simp [hd]
      obtain ⟨rfl⟩ := zd
      subst z11_
      subst z10_
      subst z
      clear h0 hd
      rw [if_pos (by rfl)]
      have c0 := keep1 (zu kB rfl) (unhide HC)
      go_simp
      exact unhide hK _ _ ⟨u0, u1, u2, true, true, u5, u6, u7, u8, u9, false, false, dm, rfl, rfl, zu kB, zf, zu l3, (fun _ => rfl), (fun h => rfl), zu l6, zu l7, zu l8, zf, zf⟩
    · intro h0 hd K hK
      have z : u5 = false := h0
      have z11_ : u11 = false := znb fun hu => z.symm.trans ((zu kF hu).2.2.2.2.2.1)
      have z10_ : u10 = false := znb fun hu => z.symm.trans ((zu l6 (zu l7 (zu l8 (zu l10 hu)))).2)
      have zd : u4 = true := by
        simp [Region.binds] at hd
        simp [hd]
      obtain ⟨rfl⟩ := zd
      subst z11_
      subst z10_
      subst z
      clear h0 hd
      rw [if_pos (by rfl)]
      go_simp
      refine (unhide HF5 W (zu kB rfl)).mono ?_
      rintro e w8 ⟨rfl, hb8⟩
      exact unhide hK _ _ ⟨u0, u1, u2, u3, true, true, u6, u7, u8, u9, false, false, dm, rfl, rfl, (fun _ => bc (zu kB rfl) hb8), zf, zu l3, zu l4, (fun _ => rfl), (fun h => ⟨(zu l6 h).1, rfl⟩), zu l7, zu l8, zf, zf⟩
    · intro h0 hd K hK
      have z : u6 = false := h0
      have z11_ : u11 = false := znb fun hu => z.symm.trans ((zu kF hu).2.2.2.2.2.2.1)
      have z10_ : u10 = false := znb fun hu => z.symm.trans ((zu l7 (zu l8 (zu l10 hu))))
      have zd : u0 = true ∧ u5 = true := by
        simp [Region.binds] at hd
        simp [hd]
      obtain ⟨rfl, rfl⟩ := zd
      subst z11_
      subst z10_
      subst z
      clear h0 hd
      rw [if_pos (by rfl)]
      go_simp
      refine (unhide HF6 W (zu kB rfl)).mono ?_
      rintro e w8 ⟨rfl, hb8⟩
      exact unhide hK _ _ ⟨true, u1, u2, u3, u4, true, true, u7, u8, u9, false, false, dm, rfl, rfl, (fun _ => bc (zu kB rfl) hb8), zf, zu l3, zu l4, zu l5, (fun _ => ⟨rfl, rfl⟩), (fun h => rfl), zu l8, zf, zf⟩
    · intro h0 hd K hK
      have z : u7 = false := h0
      have z11_ : u11 = false := znb fun hu => z.symm.trans ((zu kF hu).2.2.2.2.2.2.2.1)
      have z10_ : u10 = false := znb fun hu => z.symm.trans ((zu l8 (zu l10 hu)))
      have zd : u6 = true := by
        simp [Region.binds] at hd
        simp [hd]
      obtain ⟨rfl⟩ := zd
      subst z11_
      subst z10_
      subst z
      clear h0 hd
      rw [if_pos (by rfl)]
      go_simp
      exact unhide hK _ _ ⟨u0, u1, u2, u3, u4, u5, true, true, u8, u9, false, false, dm, rfl, rfl, zu kB, zf, zu l3, zu l4, zu l5, zu l6, (fun _ => rfl), (fun h => rfl), zf, zf⟩
    · intro h0 hd K hK
      have z : u8 = false := h0
      have z11_ : u11 = false := znb fun hu => z.symm.trans ((zu kF hu).2.2.2.2.2.2.2.2.1)
      have z10_ : u10 = false := znb fun hu => z.symm.trans ((zu l10 hu))
      have zd : u7 = true := by
        simp [Region.binds] at hd
        simp [hd]
      obtain ⟨rfl⟩ := zd
      subst z11_
      subst z10_
      subst z
      clear h0 hd
      rw [if_pos (by rfl)]
      go_simp
      exact unhide hK _ _ ⟨u0, u1, u2, u3, u4, u5, u6, true, true, u9, false, false, dm, rfl, rfl, zu kB, zf, zu l3, zu l4, zu l5, zu l6, zu l7, (fun _ => rfl), zf, zf⟩
    · intro h0 hd K hK
      have z : u9 = false := h0
      have z11_ : u11 = false := znb fun hu => z.symm.trans ((zu kF hu).2.2.2.2.2.2.2.2.2.1)
      have zd : u7 = true := by
        simp [Region.binds] at hd
        simp [hd]
      obtain ⟨rfl⟩ := zd
      subst z11_
      subst z
      clear h0 hd
      rw [if_pos (by rfl)]
      go_simp
      exact unhide hK _ _ ⟨u0, u1, u2, u3, u4, u5, u6, true, u8, true, u10, false, dm, rfl, rfl, zu kB, zu kZ, zu l3, zu l4, zu l5, zu l6, zu l7, (fun h => rfl), zu l10, zf⟩
    · intro h0 hd K hK
      have z : u10 = false := h0
      have z11_ : u11 = false := znb fun hu => z.symm.trans ((zu kF hu).2.2.2.2.2.2.2.2.2.2)
      have zd : u8 = true := by
        simp [Region.binds] at hd
        simp [hd]
      obtain ⟨rfl⟩ := zd
      subst z11_
      subst z
      clear h0 hd
      rw [if_pos (by rfl)]
      have hB := (zu kB rfl)
      have q0 := keep1 hB (unhide HO0)
      have q1 := keep1 hB (unhide HO1)
      have fz : ∀ o, W.frozen? ⟨g, o, none⟩ = false := fun o => keepz hB hbO (unhide HOf o)
      have HBB := hide hB
      clear hB
      go_simp
      exact unhide hK _ _ ⟨u0, u1, u2, u3, u4, u5, u6, u7, true, u9, true, false, dm, rfl, rfl, zt, (fun _ => ⟨W, unhide HBB, rfl⟩), zu l3, zu l4, zu l5, zu l6, zu l7, zu l8, (fun _ => rfl), zf⟩
    · intro h0 hd K hK
      have z : u11 = false := h0
      have zd0 : u0 = true ∧ u1 = true ∧ u2 = true ∧ u3 = true ∧ u4 = true ∧ u5 = true ∧ u6 = true ∧ u7 = true ∧ u8 = true ∧ u9 = true ∧ u10 = true := by
        simp [Region.binds] at hd
        simp [hd]
      have zd : u0 = true ∧ u1 = true ∧ u2 = true ∧ u3 = true ∧ u4 = true ∧ u5 = true ∧ u6 = true ∧ u7 = true ∧ u8 = true ∧ u9 = true ∧ u10 = true := ⟨zd0.1, zd0.2.1, zd0.2.2.1, zd0.2.2.2.1, zd0.2.2.2.2.1, zd0.2.2.2.2.2.1, zd0.2.2.2.2.2.2.1, zd0.2.2.2.2.2.2.2.1, zd0.2.2.2.2.2.2.2.2.1, zd0.2.2.2.2.2.2.2.2.2.1, zd0.2.2.2.2.2.2.2.2.2.2⟩
      obtain ⟨rfl, rfl, rfl, rfl, rfl, rfl, rfl, rfl, rfl, rfl, rfl⟩ := zd
      subst z
      clear h0 hd
      rw [if_pos (by rfl)]
      go_simp
      exact unhide hK _ _ ⟨true, true, true, true, true, true, true, true, true, true, true, true, dm, rfl, rfl, zu kB, zu kZ, (fun _ => ⟨rfl, rfl⟩), (fun _ => rfl), (fun _ => rfl), (fun _ => ⟨rfl, rfl⟩), (fun _ => rfl), (fun _ => rfl), (fun _ => rfl), (fun _ => ⟨rfl, rfl, rfl, rfl, rfl, rfl, rfl, rfl, rfl, rfl, rfl⟩)⟩
  case hend =>
    intro Lb A W hI
    obtain ⟨u0, u1, u2, u3, u4, hI⟩ := hI
    obtain ⟨u5, u6, u7, u8, u9, hI⟩ := hI
    obtain ⟨u10, u11, dm, hI⟩ := hI
    obtain ⟨hLb, hI⟩ := hI
    obtain ⟨hA, hI⟩ := hI
    obtain ⟨kB, hI⟩ := hI
    obtain ⟨kZ, hI⟩ := hI
    obtain ⟨l3, hI⟩ := hI
    obtain ⟨l4, hI⟩ := hI
    obtain ⟨l5, hI⟩ := hI
    obtain ⟨l6, hI⟩ := hI
    obtain ⟨l7, hI⟩ := hI
    obtain ⟨l8, hI⟩ := hI
    obtain ⟨l10, hI⟩ := hI
    have kF := hI
    clear hI
    subst hLb
    subst hA
    intro hL
    have hl : u0 = true ∧ u1 = true ∧ u2 = true ∧ u3 = true ∧ u4 = true ∧ u5 = true ∧ u6 = true ∧ u7 = true ∧ u8 = true ∧ u9 = true ∧ u10 = true ∧ u11 = true := by
      have h2 := congrArg Array.toList hL
      simpa [List.replicate] using h2
    obtain ⟨rfl, rfl, rfl, rfl, rfl, rfl, rfl, rfl, rfl, rfl, rfl, rfl⟩ := hl
    obtain ⟨W1, hA, hZ⟩ := kZ rfl
    exact unhide HQ  W1 W hZ hA

end Go.Proofs.Ytimkinpbimangaa

namespace Go.Proofs.Ytimkinpbimangaa
open Go.ChangeShapes Go.WideShapes Go.ChangeAt Go.RowKit
set_option linter.unusedVariables false
set_option linter.unusedSimpArgs false

theorem whM_any (p : Int) (w : World) : Calls Try.prog 45 #[.int .i64 p] w fun e w' => e = .returned (.agg #[.int .i64 p, .int .i64 1]) ∧ Below w.heap.size w w' := by
  go_enter Try.func45, Try.ntmps45
  go_wp2_with fail
  exact bodyPost_ret (v := .agg #[.int .i64 p, .int .i64 1]) (by simp [results, Try.results45, go_sem]) rfl ⟨rfl, ba (Below.refl _ _) _⟩
theorem two_its (W : World) (a b : Int) (g : Nat) (hg : g = W.heap.size) : Its (W.alloc (.cells #[.int .i64 a, .int .i64 b] 3)) (some ⟨g, 0, none⟩) g 0 [a, b] := fun _ => ⟨rfl, by simp [hg], fun j x hj => by
  subst hg
  match j, hj with
  | 0, hj => simp at hj; subst hj; simp [go_sem]
  | 1, hj => simp at hj; subst hj; simp [go_sem]
  | j + 2, hj => simp at hj⟩
set_option maxHeartbeats 4000000 in
set_option maxRecDepth 100000 in
theorem flM_any (u v : Option Addr) (p po q qo n m cu cv : Nat) (ps al : List Int) (r t : Int) (w : World) (hl : ps.length = n) (hm : al.length = m) (hn : n ≤ 1048576) (hm1 : m ≤ 1048576) (hu : Its w u p po ps) (hv : Its w v q qo al) :
    Calls Try.prog 16 #[.slice u n cu, .slice v m cv, .int .i64 r, .int .i64 t] w fun e w' => e = .returned (tp3 (flA ps al r t)) ∧ Below w.heap.size w w' := by
  have n0 : (0 : Int) ≤ (n : Int) := Int.natCast_nonneg _
  have m0 : (0 : Int) ≤ (m : Int) := Int.natCast_nonneg _
  by_cases hL1 : 4096 < n
  · have HANS : Hid (flA ps al r t = (0, 0, 2)) := hide (by unfold flA; rw [hl, hm, if_pos (Or.inl hL1)])
    have tL : decide ((4096 : Int) < (n : Int)) = true := decide_eq_true (by omega)
    clear hl hm hu hv
    go_enter Try.func16, Try.ntmps16
    go_wp2_with fail
    exact bodyPost_ret (v := .tuple #[.agg #[.int .i64 0, .int .i64 0], .int .i64 2]) (by simp [results, Try.results16, go_sem]) rfl ⟨by rw [unhide HANS]; rfl, ba (Below.refl _ _) _⟩
  have tL1 : decide ((4096 : Int) < (n : Int)) = false := decide_eq_false (by omega)
  by_cases hL2 : 4096 < m
  · have HANS : Hid (flA ps al r t = (0, 0, 2)) := hide (by unfold flA; rw [hl, hm, if_pos (Or.inr hL2)])
    have tL : decide ((4096 : Int) < (m : Int)) = true := decide_eq_true (by omega)
    clear hl hm hu hv
    go_enter Try.func16, Try.ntmps16
    go_wp2_with fail
    exact bodyPost_ret (v := .tuple #[.agg #[.int .i64 0, .int .i64 0], .int .i64 2]) (by simp [results, Try.results16, go_sem]) rfl ⟨by rw [unhide HANS]; rfl, ba (Below.refl _ _) _⟩
  have tL2 : decide ((4096 : Int) < (m : Int)) = false := decide_eq_false (by omega)
  have HP := hide (fun W (hW : Below w.heap.size w W) => pnM_any u p po n cu ps W hl (by omega) (hu.bel hW))
  have HC := hide (fun W (hW : Below w.heap.size w W) => wi_any v q qo m cv al 0 180 W hm (by omega) (hv.bel hW))
  have HANS : Hid (flA ps al r t = if (pnl ps && decide ((m : Int) = (n : Int) - 1) && al.all (inR 0 180) && (inR 0 1000 r && inR 0 1000 t)) = true then lenA (lenP ps) r t al else (0, 0, 1)) := hide (by unfold flA flOk; rw [hl, hm, if_neg (by omega)]; simp only [Bool.and_assoc])
  have HU := hide hu
  have HV := hide hv
  have HL := hide hl
  have HM := hide hm
  clear hu hv hl hm
  have HW0 := hide (ba (Below.refl w.heap.size w) (.cells #[.int .i64 0, .int .i64 0] 38))
  go_enter Try.func16, Try.ntmps16
  go_wp2_with fail
  refine (unhide HP _ (unhide HW0)).mono ?_
  rintro e w' ⟨rfl, rfl⟩
  cases hq1 : pnl ps with
  | false =>
    go_wp2_with fail
    exact bodyPost_ret (v := .tuple #[.agg #[.int .i64 0, .int .i64 0], .int .i64 1]) (by simp [results, Try.results16, go_sem, *]) rfl ⟨by rw [unhide HANS, if_neg (by simp [*])]; rfl, ba (Below.refl _ _) _⟩
  | true =>
    by_cases hq2 : (m : Int) = (n : Int) - 1
    rotate_left
    · have e2 : ((m : Int) != (n : Int) - 1) = true := by simp [hq2]
      go_wp2_with fail
      exact bodyPost_ret (v := .tuple #[.agg #[.int .i64 0, .int .i64 0], .int .i64 1]) (by simp [results, Try.results16, go_sem, *]) rfl ⟨by rw [unhide HANS, if_neg (by simp [*])]; rfl, ba (Below.refl _ _) _⟩
    have e2 : ((m : Int) != (n : Int) - 1) = false := by simp [hq2]
    have HQ2 := hide hq2
    have nm : (m : Int) ≤ (n : Int) := by omega
    have d2 : decide ((m : Int) = (n : Int) - 1) = true := decide_eq_true hq2
    clear hq2
    go_wp2_with fail
    refine (unhide HC _ (unhide HW0)).mono ?_
    rintro e w' ⟨rfl, rfl⟩
    cases hq3 : al.all (inR 0 180) with
    | false =>
      go_wp2_with fail
      exact bodyPost_ret (v := .tuple #[.agg #[.int .i64 0, .int .i64 0], .int .i64 1]) (by simp [results, Try.results16, go_sem, *]) rfl ⟨by rw [unhide HANS, if_neg (by simp [*])]; rfl, ba (Below.refl _ _) _⟩
    | true =>
      go_wp2_with fail
      refine (wi_any (some ⟨w.heap.size + 1, 0, none⟩) (w.heap.size + 1) 0 2 2 [r, t] 0 1000 ((w.alloc (.cells #[.int .i64 0, .int .i64 0] 38)).alloc (.cells #[.int .i64 r, .int .i64 t] 3)) rfl (by omega) (two_its _ r t _ (by simp))).mono ?_
      rintro e w' ⟨rfl, rfl⟩
      have ert : [r, t].all (inR 0 1000) = (inR 0 1000 r && inR 0 1000 t) := by simp
      rw [ert]
      clear ert
      cases hq4 : (inR 0 1000 r && inR 0 1000 t) with
      | false =>
        go_wp2_with fail
        exact bodyPost_ret (v := .tuple #[.agg #[.int .i64 0, .int .i64 0], .int .i64 1]) (by simp [results, Try.results16, go_sem, *]) rfl ⟨by rw [unhide HANS, if_neg (by simp [*])]; rfl, ba (ba (Below.refl _ _) _) _⟩
      | true =>
        have HA2 : Hid (flA ps al r t = lenA (lenP ps) r t al) := hide (by rw [unhide HANS, hq1, hq3, hq4, d2]; rfl)
        have HPS : Hid (∀ x ∈ ps, 1 ≤ x ∧ x ≤ 1000) := hide (fun x hx => by
          unfold pnl at hq1
          simp only [Bool.and_eq_true] at hq1
          exact inR_iff.1 (List.all_eq_true.1 hq1.2 x hx))
        have HAL : Hid (∀ x ∈ al, 0 ≤ x ∧ x ≤ 180) := hide (fun x hx => inR_iff.1 (List.all_eq_true.1 hq3 x hx))
        simp only [Bool.and_eq_true] at hq4
        obtain ⟨r0, r1⟩ := inR_iff.1 hq4.1
        obtain ⟨t0, t1⟩ := inR_iff.1 hq4.2
        have HW1 := hide (ba (unhide HW0) (.cells #[.int .i64 r, .int .i64 t] 3))
        clear HANS hq1 hq3 hq4 d2 e2 HP HC
        go_wp2_with fail
        refine (whM_any 0 _).mono ?_
        rintro e W2 ⟨rfl, hW2⟩
        have z0 := keep1 hW2 (b := w.heap.size) (o := 0) (v := .int .i64 0) (by simp [go_sem])
        have z1 := keep1 hW2 (b := w.heap.size) (o := 1) (v := .int .i64 0) (by simp [go_sem])
        have zf : ∀ o, W2.frozen? ⟨w.heap.size, o, none⟩ = false := fun o => keepz hW2 (by simp; omega) (by simp [go_sem])
        have zl := cell_lt z0
        have HW2 := hide (bc (unhide HW1) hW2)
        clear hW2 HW1
        generalize hG : W2.heap.size = G
        have HG := hide hG
        have G1 : w.heap.size < G := by omega
        rw [hG] at zl
        clear hG
        go_wp2_with fail
        try rw [unhide HG]
        go_loopw [12, 11] (fun s c W => ∃ (i : Nat) (f : Fc), s = .int .i64 (i : Int) ∧ i ≤ n ∧ f = lenP (ps.take i) ∧ c = .int .i64 f.2.2 ∧ Below w.heap.size w W ∧ G + 1 ≤ W.heap.size ∧ W.cell? ⟨G, 0, none⟩ = some (.int .i64 f.1) ∧ W.cell? ⟨G, 1, none⟩ = some (.int .i64 f.2.1) ∧ (∀ o, W.frozen? ⟨G, o, none⟩ = false) ∧ W.cell? ⟨w.heap.size, 0, none⟩ = some (.int .i64 0) ∧ W.cell? ⟨w.heap.size, 1, none⟩ = some (.int .i64 0) ∧ ∀ o, W.frozen? ⟨w.heap.size, o, none⟩ = false) (fun s _ _ => n - (intOf s).toNat)
        case atStart => exact ⟨0, (0, 1, 0), rfl, Nat.zero_le _, rfl, rfl, ba (unhide HW2) _, by have := unhide HG; simp; omega, by have := unhide HG; subst this; simp [go_sem], by have := unhide HG; subst this; simp [go_sem], by have := unhide HG; subst this; simp [go_sem], ka z0, ka z1, by have := unhide HG; subst this; simp [go_sem, *]⟩
        case round =>
          clear z0 z1 zf HW2
          obtain ⟨i, f, rfl, hi, hf, rfl, hW, hg, c0, c1, fz, z0, z1, zf⟩ := hrel
          have HBD : Hid (Bd3 f) := hide (by rw [hf]; exact lenP_bd _)
          have HF := hide hf
          have HW := hide hW
          clear hf hW
          by_cases h : i < n ∧ f.2.2 = 0
          · obtain ⟨h, hcz⟩ := h
            have i1 : (i : Int) < (n : Int) := by omega
            have i0 : (0 : Int) ≤ (i : Int) := Int.natCast_nonneg _
            have iz : decide ((i : Int) < (n : Int)) = true := decide_eq_true i1
            obtain ⟨x, hx⟩ := get_some (unhide HL) h
            obtain ⟨rfl, pw, k0⟩ := ((unhide HU).bel (unhide HW)).at hx
            have xb := unhide HPS x (List.mem_of_getElem? hx)
            have HST : Hid (add3 f.1 f.2.1 x 1 = lenP (ps.take (i + 1))) := hide (by
              have e := (fr_whole x (by omega) (by omega))
              rw [show lenP (ps.take (i + 1)) = lng f x 1 from by rw [unhide HF]; unfold lenP; rw [fold_take _ _ hx], lng_go hcz, e.1, e.2.1])
            have HAD := hide (fun W => specAdd_any f.1 f.2.1 x 1 W (by have := (unhide HBD).1; omega) (by have := (unhide HBD).1; omega) (by have := (unhide HBD).2.1; omega) (by have := (unhide HBD).2.1; omega) (by omega) (by omega) (by omega) (by omega))
            simp only [pair_tp3] at HAD
            generalize hf2 : add3 f.1 f.2.1 x 1 = f2 at HAD HST
            have HB2 : Hid (Bd3 f2) := hide (by rw [← hf2]; exact add3_bd _ _ _ _)
            obtain ⟨f0, f1, f3⟩ := f
            obtain ⟨g0, g1, g3⟩ := f2
            unfold tp3 at HAD
            simp only at HAD c0 c1 hcz
            subst hcz
            clear hf2 hx xb HBD
            go_wp2_with fail
            refine Go.Code.wp_mono (Only.to (fun _ _ h => h)) (fl10 (x := x) (a0 := g0) (a1 := g1) (a3 := g3) (hide c0) (hide c1) (hide k0) (by omega) (hide c0) (hide c1) (hide fz) (hide h) (hide fun X _ => whM_any x X) (hide fun X _ => unhide HAD X) ?_)
            intro W1 W9 h9 hW1
            have c0 := keep1 hW1 c0
            have c1 := keep1 hW1 c1
            have z0 := keep1 hW1 z0
            have z1 := keep1 hW1 z1
            have fz : ∀ o, W1.frozen? ⟨G, o, none⟩ = false := fun o => keepz hW1 (by omega) (fz o)
            have zf : ∀ o, W1.frozen? ⟨w.heap.size, o, none⟩ = false := fun o => keepz hW1 (by omega) (zf o)
            have hg := Nat.le_trans hg hW1.size
            have HW1 := hide ((unhide HW).trans (hW1.mono (unhide HW).size))
            clear hW1
            subst h9
            have ngw : G ≠ w.heap.size := by omega
            have ngw2 : w.heap.size ≠ G := by omega
            go_wp2_with fail
            go_roundw
            case rel => exact ⟨i + 1, (g0, g1, g3), by simp, h, unhide HST, rfl, ((unhide HW1).setCell (by simp; omega) _).setCell (by simp; omega) _, by simpa using hg, by simp [go_sem, *], by simp [go_sem, *], by simp [go_sem, *], by simp [go_sem, *], by simp [go_sem, *], by simp [go_sem, *]⟩
            case measure => simp only [intOf]; omega
          · have HF : Hid (f = lenP ps) := hide (by
              by_cases hc : f.2.2 = 0
              · rw [unhide HF, List.take_of_length_le (by rw [unhide HL]; omega)]
              · have e := unhide HF
                have hb := unhide HBD
                rw [e] at hc hb ⊢
                unfold lenP at hc hb ⊢
                exact (fold_rest (fun p => p) 1 ps i _ hb hc).symm)
            have key : (¬ i < n ∧ decide ((i : Int) < (n : Int)) = false) ∨ (i < n ∧ ((i : Int) < (n : Int)) ∧ decide ((i : Int) < (n : Int)) = true ∧ (f.2.2 == 0) = false ∧ ¬ f.2.2 = 0) := by
              by_cases h1 : i < n
              · exact Or.inr ⟨by omega, by omega, decide_eq_true (by omega), by simp; omega, by omega⟩
              · exact Or.inl ⟨by omega, decide_eq_false (by omega)⟩
            clear h
            obtain ⟨y0, y1, y3⟩ := f
            simp only at c0 c1 key
            have HBF : Hid (Bd3 (y0, y1, y3)) := HBD
            rcases key with ⟨k0, k1⟩ | ⟨k00, k0, k1, k2, k3⟩
            all_goals
              clear HBD hi
              go_wp2_with fail
              go_loopw [13, 11] (fun s c W => ∃ (i : Nat) (f : Fc), s = .int .i64 (i : Int) ∧ i ≤ m ∧ f = lenA (lenP ps) r t (al.take i) ∧ c = .int .i64 f.2.2 ∧ Below w.heap.size w W ∧ G + 1 ≤ W.heap.size ∧ W.cell? ⟨G, 0, none⟩ = some (.int .i64 f.1) ∧ W.cell? ⟨G, 1, none⟩ = some (.int .i64 f.2.1) ∧ (∀ o, W.frozen? ⟨G, o, none⟩ = false) ∧ W.cell? ⟨w.heap.size, 0, none⟩ = some (.int .i64 0) ∧ W.cell? ⟨w.heap.size, 1, none⟩ = some (.int .i64 0) ∧ ∀ o, W.frozen? ⟨w.heap.size, o, none⟩ = false) (fun s _ _ => m - (intOf s).toNat)
              case atStart => exact ⟨0, (y0, y1, y3), rfl, Nat.zero_le _, unhide HF, rfl, unhide HW, hg, c0, c1, fz, z0, z1, zf⟩
              case round =>
                clear HF HW hg c0 c1 fz z0 z1 zf HBF k1
                obtain ⟨j, f, rfl, hi, hf, rfl, hW, hg, c0, c1, fz, z0, z1, zf⟩ := hrel
                have HBD : Hid (Bd3 f) := hide (by rw [hf]; exact lenA_bd (lenP_bd _) _ _ _)
                have HF := hide hf
                have HW := hide hW
                clear hf hW
                by_cases h : j < m ∧ f.2.2 = 0
                · obtain ⟨h, hcz⟩ := h
                  have i1 : (j : Int) < (m : Int) := by omega
                  have i0 : (0 : Int) ≤ (j : Int) := Int.natCast_nonneg _
                  have iz : decide ((j : Int) < (m : Int)) = true := decide_eq_true i1
                  obtain ⟨x, hx⟩ := get_some (unhide HM) h
                  obtain ⟨rfl, pw, k0⟩ := ((unhide HV).bel (unhide HW)).at hx
                  have xb := unhide HAL x (List.mem_of_getElem? hx)
                  obtain ⟨⟨b1, b2⟩, ⟨b3, b4⟩, b5, b6⟩ := itm_bd xb ⟨r0, r1⟩ ⟨t0, t1⟩
                  have w1 : IntKind.i64.wrap (2 * r) = 2 * r := wrap_i (by omega) (by omega)
                  have w2 : IntKind.i64.wrap (2 * r + t) = 2 * r + t := wrap_i (by omega) (by omega)
                  have w3 : IntKind.i64.wrap (x * (2 * r + t)) = x * (2 * r + t) := wrap_i (by omega) (by omega)
                  have w4 : IntKind.i64.wrap (x * (2 * r + t) * 11) = itm r t x := wrap_i (by omega) (by unfold itm at b6; omega)
                  have HOF := hide (fun W => specOf_any (itm r t x) 1260 W (by omega) (by omega) (by omega) (by omega))
                  unfold frAns at HOF
                  rw [itm_code ⟨b5, b6⟩] at HOF
                  have HST : Hid (add3 f.1 f.2.1 (frN (itm r t x) 1260) (frD (itm r t x) 1260) = lenA (lenP ps) r t (al.take (j + 1))) := hide (by
                    rw [show lenA (lenP ps) r t (al.take (j + 1)) = lng f (itm r t x) 1260 from by rw [unhide HF]; unfold lenA; rw [fold_take _ _ hx], lng_go hcz])
                  have HAD := hide (fun W => specAdd_any f.1 f.2.1 (frN (itm r t x) 1260) (frD (itm r t x) 1260) W (by have := (unhide HBD).1; omega) (by have := (unhide HBD).1; omega) (by have := (unhide HBD).2.1; omega) (by have := (unhide HBD).2.1; omega) (by have := wf_N (itm r t x) 1260; omega) (by have := wf_N (itm r t x) 1260; omega) (by have := wf_D (itm r t x) 1260; omega) (by have := wf_D (itm r t x) 1260; omega))
                  simp only [pair_tp3] at HAD
                  generalize hf2 : add3 f.1 f.2.1 (frN (itm r t x) 1260) (frD (itm r t x) 1260) = f2 at HAD HST
                  have HB2 : Hid (Bd3 f2) := hide (by rw [← hf2]; exact add3_bd _ _ _ _)
                  clear hf2
                  generalize frN (itm r t x) 1260 = X at *
                  generalize frD (itm r t x) 1260 = Y at *
                  obtain ⟨f0, f1, f3⟩ := f
                  obtain ⟨g0, g1, g3⟩ := f2
                  unfold tp3 at HAD
                  simp only at HAD c0 c1 hcz
                  subst hcz
                  clear hx xb HBD
                  go_wp2_with fail
                  refine (unhide HOF _).mono ?_
                  rintro e W1 ⟨rfl, hW1⟩
                  have c0 := keep1 hW1 c0
                  have c1 := keep1 hW1 c1
                  have z0 := keep1 hW1 z0
                  have z1 := keep1 hW1 z1
                  have fz : ∀ o, W1.frozen? ⟨G, o, none⟩ = false := fun o => keepz hW1 (by omega) (fz o)
                  have zf : ∀ o, W1.frozen? ⟨w.heap.size, o, none⟩ = false := fun o => keepz hW1 (by omega) (zf o)
                  have hg := Nat.le_trans hg hW1.size
                  have HW1 := hide ((unhide HW).trans (hW1.mono (unhide HW).size))
                  clear hW1
                  have gl : G < W1.heap.size := by omega
                  have gl2 : w.heap.size < W1.heap.size := by omega
                  go_wp2_with fail
                  refine (unhide HAD _).mono ?_
                  rintro e W2 ⟨rfl, hW2⟩
                  have c0 := keep1 hW2 (ka c0)
                  have c1 := keep1 hW2 (ka c1)
                  have z0 := keep1 hW2 (ka z0)
                  have z1 := keep1 hW2 (ka z1)
                  have fz : ∀ o, W2.frozen? ⟨G, o, none⟩ = false := fun o => keepz hW2 (by simp; omega) (by simp [go_sem, fz o, gl])
                  have zf : ∀ o, W2.frozen? ⟨w.heap.size, o, none⟩ = false := fun o => keepz hW2 (by simp; omega) (by simp [go_sem, zf o, gl2])
                  have hg : G + 1 ≤ W2.heap.size := Nat.le_trans (by simp; omega) hW2.size
                  have HW2 := hide ((ba (unhide HW1) _).trans (hW2.mono (ba (unhide HW1) _).size))
                  clear hW2
                  have ngw : G ≠ w.heap.size := by omega
                  have ngw2 : w.heap.size ≠ G := by omega
                  go_wp2_with fail
                  go_roundw
                  case rel => exact ⟨j + 1, (g0, g1, g3), by simp, h, unhide HST, rfl, ((unhide HW2).setCell (by simp; omega) _).setCell (by simp; omega) _, by simpa using hg, by simp [go_sem, *], by simp [go_sem, *], by simp [go_sem, *], by simp [go_sem, *], by simp [go_sem, *], by simp [go_sem, *]⟩
                  case measure => simp only [intOf]; omega
                · have HF : Hid (f = lenA (lenP ps) r t al) := hide (by
                    by_cases hc : f.2.2 = 0
                    · rw [unhide HF, List.take_of_length_le (by rw [unhide HM]; omega)]
                    · have e := unhide HF
                      have hb := unhide HBD
                      rw [e] at hc hb ⊢
                      unfold lenA at hc hb ⊢
                      exact (fold_rest (itm r t) 1260 al j _ hb hc).symm)
                  have key : (¬ j < m ∧ decide ((j : Int) < (m : Int)) = false) ∨ (j < m ∧ ((j : Int) < (m : Int)) ∧ decide ((j : Int) < (m : Int)) = true ∧ (f.2.2 == 0) = false ∧ ¬ f.2.2 = 0) := by
                    by_cases h1 : j < m
                    · exact Or.inr ⟨by omega, by omega, decide_eq_true (by omega), by simp; omega, by omega⟩
                    · exact Or.inl ⟨by omega, decide_eq_false (by omega)⟩
                  clear h
                  obtain ⟨y0, y1, y3⟩ := f
                  simp only at c0 c1 key
                  by_cases hy : y3 = 0
                  · subst hy
                    rcases key with ⟨k0, k1⟩ | ⟨k00, k0, k1, k2, k3⟩
                    all_goals
                      first
                      | (exact absurd rfl k3)
                      | (go_wp2_with fail
                         exact bodyPost_ret (v := .tuple #[.agg #[.int .i64 y0, .int .i64 y1], .int .i64 0]) (by simp [results, Try.results16, go_sem, *]) rfl ⟨by rw [unhide HA2, ← unhide HF]; rfl, ((unhide HW).setCell (by simp) _).setCell (by simp) _⟩)
                  · have hy1 : (y3 != 0) = true := by simp [hy]
                    have hy2 : (y3 == 0) = false := by simp [hy]
                    have HY := hide hy
                    clear hy
                    rcases key with ⟨k0, k1⟩ | ⟨k00, k0, k1, k2, k3⟩
                    all_goals
                      go_wp2_with fail
                      exact bodyPost_ret (v := .tuple #[.agg #[.int .i64 0, .int .i64 0], .int .i64 y3]) (by simp [results, Try.results16, go_sem, *]) rfl ⟨by rw [unhide HA2, ← unhide HF, bd3_zero (unhide HBD) (unhide HY)]; rfl, ((unhide HW).setCell (by simp) _).setCell (by simp) _⟩
end Go.Proofs.Ytimkinpbimangaa

namespace Go.Proofs.Ytimkinpbimangaa
open Go.ChangeShapes Go.WideShapes Go.ChangeAt Go.RowKit
set_option linter.unusedVariables false
set_option linter.unusedSimpArgs false

theorem code_bel {w w' : World} {a : Option Addr} {len cap : Nat} {zs : List Int} (h : Code w.heap.size w a len cap zs) (hb : Below w.heap.size w w') : Code w.heap.size w' a len cap zs := h.mv (Mv.of_bel (g := w.heap.size) hb) (Nat.le_refl _)
theorem sm_take {ps : List Int} {i : Nat} {x : Int} (hx : ps[i]? = some x) : sm (ps.take (i + 1)) = sm (ps.take i) + x := by
  unfold sm
  rw [fold_take _ _ hx]
theorem in_app {L : List Int} {x : Int} (h : ∀ y ∈ L, 0 ≤ y ∧ y ≤ 180) (hx : 0 ≤ x ∧ x ≤ 180) : ∀ y ∈ L ++ [x], 0 ≤ y ∧ y ≤ 180 := by
  intro y hy
  rcases List.mem_append.1 hy with h1 | h1
  · exact h y h1
  · simp at h1; subst h1; exact hx
theorem rep_app (n : Nat) : List.replicate (n + 1) (0 : Int) = List.replicate n 0 ++ [0] := by rw [List.replicate_succ']
theorem row_frm {w : World} {B t k : Nat} {v : Value} {n : Nat} {L : List Int} (h : Row w B t k v n L) : ∃ u cap, v = .slice u n cap := by
  obtain ⟨u, cap, hv, _⟩ := h.form
  exact ⟨u, cap, hv⟩
theorem row_sm {w : World} {B t k : Nat} {u : Option Addr} {n cap : Nat} {L : List Int} (h : Row w B t k (.slice u n cap) n L) (hn : n ≠ 0) : ∃ b, u = some ⟨b, 0, none⟩ ∧ b < w.heap.size ∧ n ≤ cap := by
  obtain ⟨g, cap', hv, hg, hgl, hc, _⟩ := h.sm (by
    intro e
    rcases h.2 with ⟨_, h0⟩ | ⟨_, _, _, h0, _⟩
    · exact hn h0
    · rw [e] at h0; cases h0)
  cases hv
  exact ⟨g, rfl, hgl, hc⟩
theorem IntsAt.take {w : World} {b off i : Nat} {L : List Int} (h : IntsAt w b off L) : IntsAt w b off (L.take i) := by
  intro j x hj
  rw [List.getElem?_take] at hj
  split at hj
  · exact h j x hj
  · cases hj
set_option maxHeartbeats 16000000 in
set_option maxRecDepth 100000 in
theorem fnBent_core (a0 a1 : Option Addr) (len0 cap0 len1 cap1 : Nat) (zs0 zs1 : List Int) (w : World) (hl0 : len0 ≤ 1048576) (hl1 : len1 ≤ 1048576) (hc0 : Code w.heap.size w a0 len0 cap0 zs0) (hc1 : Code w.heap.size w a1 len1 cap1 zs1) :
    Calls Try.prog 3 #[.slice a0 len0 cap0, .slice a1 len1 cap1] w fun e w' => e = .returned (.bool true) ∧ Below w.heap.size w w' := by
  have HC1 := hide hc1
  have HST := hide (stripOf_any a0 len0 cap0 zs0 w hc0 (by omega))
  have l0 : decide ((1048576 : Int) < (len0 : Int)) = false := decide_eq_false (by omega)
  have l1 : decide ((1048576 : Int) < (len1 : Int)) = false := decide_eq_false (by omega)
  obtain ⟨iP, hi1, hp0, hp1, hp2⟩ := info_parts int_info3
  clear hc0 hc1
  go_enter Try.func3, Try.ntmps3
  go_wp2_with fail
  refine (unhide HST).mono ?_
  rintro e W1 ⟨r1, r2, n, m, ps, bs, rfl, hsp⟩
  obtain ⟨ua, ca, rfl⟩ := row_frm hsp.p
  obtain ⟨ub, cb, rfl⟩ := row_frm hsp.q
  have HSTP := hide hsp.s
  have hpl : ps.length = n := by have := hsp.p.len; omega
  have hql : bs.length = m := by have := hsp.q.len; omega
  obtain ⟨⟨n1, n2⟩, nm, hpb, hbb⟩ := stp_parts hsp.s
  rw [hpl] at n1 n2 nm
  rw [hql] at nm
  have HPL := hide hpl
  have HQL : Hid (bs.length = n - 1) := hide (by omega)
  have HPB := hide hpb
  have HBB0 := hide hbb
  have HP := hide hsp.p
  have HQ := hide hsp.q
  have HB := hide hsp.bel
  have HNM := hide nm
  have m2 : m ≤ 40 := by omega
  have HBP := hide (fun (W : World) (h1 : Its W ua (bo ua) 0 ps) (h2 : Its W ub (bo ub) 0 bs) => bnP_any ua ub (bo ua) 0 (bo ub) 0 n m ca cb ps bs W hpl hql (by omega) (by omega) h1 h2)
  have HBM := hide (fun (W : World) (h1 : Its W ua (bo ua) 0 ps) (h2 : Its W ub (bo ub) 0 bs) => bnM_any ua ub (bo ua) 0 (bo ub) 0 n m ca cb ps bs W hpl hql (by omega) (by omega) h1 h2)
  have HLL : Hid (¬ (4096 < ps.length ∨ 4096 < bs.length)) := hide (by omega)
  clear hsp hpb hbb nm
  go_wp2_with fail
  refine (unhide HBP _ (unhide HP).its (unhide HQ).its).mono ?_
  rintro e W2 ⟨⟨r3, rfl, hr3⟩, hb2⟩
  obtain ⟨uc, cc, rfl⟩ := row_frm hr3
  have HP := hide ((unhide HP).below hb2)
  have HQ := hide ((unhide HQ).below hb2)
  have HB := hide (bc (unhide HB) hb2)
  have HR3 := hide hr3
  clear hb2 hr3
  go_wp2_with fail
  refine (unhide HBM _ (unhide HP).its (unhide HQ).its).mono ?_
  rintro e W3 ⟨⟨r4, rfl, hr4⟩, hb3⟩
  obtain ⟨ud, cd, rfl⟩ := row_frm hr4
  have HP := hide ((unhide HP).below hb3)
  have HQ := hide ((unhide HQ).below hb3)
  have HR3 := hide ((unhide HR3).below hb3)
  have HB := hide (bc (unhide HB) hb3)
  have HR4 := hide hr4
  clear hb3 hr4 HBM
  cases hf : fstB ps bs ps.length with
  | none =>
    obtain ⟨hk, hL⟩ := bn_good (unhide HLL) (unhide HSTP) hf
    obtain ⟨fk, fp, fb⟩ := own_ft (unhide HSTP) hf
    rw [hk, hL, cns_len, hpl]
    rw [hL, cns_len, hpl] at HR3 HR4
    rw [hpl] at fk fp fb
    obtain ⟨b, rfl, hbl, hbc⟩ := row_sm (unhide HR3) (by omega)
    obtain ⟨c, rfl, hcl, hcc⟩ := row_sm (unhide HR4) (by omega)
    have HSP := hide (sp_some b c (n + 1) cc cd (cns ps bs (n + 1)) W3 (cns_len _ _ _) (by omega) hbl hcl (unhide HR3).ints (unhide HR4).ints)
    have z0 : ((0 : Int) != 0) = false := by decide
    have HN1 : Hid (∀ N1, N1 = n + 1 → True) := hide (fun _ _ => trivial)
    clear hk hL hcl hcc HN1
    simp only
    go_wp2_with fail
    refine (unhide HSP).mono ?_
    rintro e W4 ⟨rfl, hb4⟩
    have HP := hide ((unhide HP).below hb4)
    have HQ := hide ((unhide HQ).below hb4)
    have HR3 := hide ((unhide HR3).below hb4)
    have HB := hide (bc (unhide HB) hb4)
    clear hb4 HSP HR4
    go_wp2_with fail
    go_loopw [13] (fun s W => ∃ i : Nat, s = .int .i64 (i : Int) ∧ i ≤ n ∧ Below W4.heap.size W4 W) (fun s _ => n - (intOf s).toNat)
    case atStart => exact ⟨0, rfl, Nat.zero_le _, Below.refl _ _⟩
    case round =>
      obtain ⟨i, rfl, hi, hW⟩ := hrel
      have HW := hide hW
      have HPw := hide ((unhide HP).below hW)
      have HRw := hide ((unhide HR3).below hW)
      clear hW
      by_cases h : i < n
      · have i1 : (i : Int) < (n : Int) := by omega
        have i0 : (0 : Int) ≤ (i : Int) := Int.natCast_nonneg _
        have iz : decide ((i : Int) < (n : Int)) = true := decide_eq_true i1
        obtain ⟨l, hx⟩ := get_some (unhide HPL) h
        obtain ⟨pb, rfl, hpbl, _⟩ := row_sm (unhide HPw) (by omega)
        have kl := (unhide HPw).cellAt hx
        have lb := unhide HPB l (List.mem_of_getElem? hx)
        have gl : ps.getD i 0 = l := by rw [List.getD_eq_getElem?_getD, hx]; rfl
        obtain ⟨sa0, sa1⟩ := fl2_cns_at ps bs (n := n + 1) (i := i) (by omega)
        obtain ⟨sb0, sb1⟩ := fl2_cns_at ps bs (n := n + 1) (i := i + 1) (by omega)
        have A0 := hide ((unhide HRw).cellAt sb0)
        have A1 := hide ((unhide HRw).cellAt sb1)
        have B0 := hide ((unhide HRw).cellAt sa0)
        have B1 := hide ((unhide HRw).cellAt sa1)
        have hst := cn_step ps bs i
        rw [gl] at hst
        have hln := ln_step (wy_uw (unhide HBB0) i) (l := l) (by omega)
        rw [← hst] at hln
        have ok1 := cn_bd (unhide HPB) (unhide HBB0) (i + 1)
        have ok0 := cn_bd (unhide HPB) (unhide HBB0) i
        have wi : IntKind.i64.wrap ((i : Int) + 1) = ((i + 1 : Nat) : Int) := by rw [wrap_i (by omega) (by omega)]; omega
        have hle : lnG (sub (cn ps bs (i + 1)) (cn ps bs i)) = (((cn ps bs (i + 1)).1 - (cn ps bs i).1).natAbs : Int) + (((cn ps bs (i + 1)).2 - (cn ps bs i).2).natAbs : Int) := rfl
        rw [hle] at hln
        have wl : IntKind.i64.wrap ((((cn ps bs (i + 1)).1 - (cn ps bs i).1).natAbs : Int) + (((cn ps bs (i + 1)).2 - (cn ps bs i).2).natAbs : Int)) = l := by rw [hln]; exact wrap_i (by omega) (by omega)
        have ll : (l != l) = false := by simp
        have wdx : IntKind.i64.wrap ((cn ps bs (i + 1)).1 - (cn ps bs i).1) = (cn ps bs (i + 1)).1 - (cn ps bs i).1 := wrap_i (by omega) (by omega)
        have wdy : IntKind.i64.wrap ((cn ps bs (i + 1)).2 - (cn ps bs i).2) = (cn ps bs (i + 1)).2 - (cn ps bs i).2 := wrap_i (by omega) (by omega)
        have HAB1 := hide (fun X => absL_any ((cn ps bs (i + 1)).1 - (cn ps bs i).1) X (by omega) (by omega))
        have HAB2 := hide (fun X => absL_any ((cn ps bs (i + 1)).2 - (cn ps bs i).2) X (by omega) (by omega))
        have KL := hide kl
        clear hx gl sa0 sa1 sb0 sb1 hst hln hle ok0 ok1 kl
        go_wp2_with fail
        refine Go.Code.wp_mono (Only.to (fun _ _ h => h)) (fb12 (j := i + 1) A0 A1 B0 B1 KL (hide wi) (hide (by omega)) (hide (by omega)) (hide wdx) (hide fun X _ => unhide HAB1 X) (hide wi) (hide (by omega)) (hide (by omega)) (hide wdy) (hide fun X _ => unhide HAB2 X) (hide wl) (hide h) ?_)
        intro X1 hX1
        have HW := hide (bc (unhide HW) hX1)
        clear hX1 A0 A1 B0 B1 KL wi wdx wdy wl HAB1 HAB2
        rw [ll]
        go_wp2_with fail
        go_roundw
        case rel => first | exact ⟨i + 1, by simp, h, unhide HW⟩ | ((repeat apply Exists.intro); refine ⟨?_, rfl⟩; exact ⟨i + 1, by simp, h, unhide HW⟩)
        case measure => first | (simp only [intOf]; omega) | (simp [intOf]; omega)
      · have iz : decide ((i : Int) < (n : Int)) = false := decide_eq_false (by omega)
        have HFT := hide (ftP_any b 0 (n + 1) cc (cns ps bs (n + 1)) wr (cns_len _ _ _) (by omega) hbc (Nat.lt_of_lt_of_le (by have := (unhide HR3).ints; exact (by have h9 := ((unhide HR3).lt b rfl).2; exact h9)) (unhide HW).size) (unhide HRw).ints)
        unfold FtAns at HFT
        rw [fk, fp, fb, hpl, hql] at HFT
        have HPx := HPw
        have HQx := hide ((unhide HQ).below (unhide HW))
        have HBx := hide (bc (unhide HB) (unhide HW))
        clear fk fp fb HRw
        go_wp2_with fail
        refine (unhide HFT).mono ?_
        rintro e W5 ⟨⟨r5, r6, rfl, hr5, hr6, _⟩, hb5⟩
        obtain ⟨ue, ce, rfl⟩ := row_frm hr5
        obtain ⟨uf, cf, rfl⟩ := row_frm hr6
        have HPx := hide ((unhide HPx).below hb5)
        have HQx := hide ((unhide HQx).below hb5)
        have HBx := hide (bc (unhide HBx) hb5)
        have HS1 := hide (sm_same ue ua (bo ue) 0 (bo ua) 0 n ce ca ps W5 hpl (by omega) hr5.its (unhide HPx).its)
        have HR6 := hide hr6
        clear hb5 hr5 hr6 HFT
        go_wp2_with fail
        refine (unhide HS1).mono ?_
        rintro e W6 ⟨rfl, hb6⟩
        have HPx := hide ((unhide HPx).below hb6)
        have HQx := hide ((unhide HQx).below hb6)
        have HR6 := hide ((unhide HR6).below hb6)
        have HBx := hide (bc (unhide HBx) hb6)
        have HS2 := hide (sm_same uf ub (bo uf) 0 (bo ub) 0 m cf cb bs W6 hql (by omega) (unhide HR6).its (unhide HQx).its)
        clear hb6 HS1
        go_wp2_with fail
        refine (unhide HS2).mono ?_
        rintro e W7 ⟨rfl, hb7⟩
        have HP := hide ((unhide HPx).below hb7)
        have HB := hide (bc (unhide HBx) hb7)
        clear hb7 HS2 HR6 HQx HPx HBx HPw HW HR3 hpl hql
        go_wp2_with fail
        have HM0 := hide (show 1 ≤ n from n1)
        have HBX := hide (Below.refl W7.heap.size W7)
        have HRA := hide ((row_made W7 3 W7.heap.size 1 (Nat.le_refl _) _ rfl).below (ba (Below.refl _ _) (Obj.cells #[] 3)))
        have HRN := hide (row_made (W7.alloc (Obj.cells #[] 3)) 3 W7.heap.size 1 (by simp) (W7.heap.size + 1) (by simp))
        have HBY := hide (ba (ba (Below.refl W7.heap.size W7) (Obj.cells #[] 3)) (Obj.cells #[] 3))
        generalize hBB : W7.heap.size = BB at *
        have HBB := hide hBB
        clear hBB
        go_wp2_with fail
        go_loopw [20, 21, 22, 23] (fun s ra rn z W => ∃ (i : Nat) (AL : List Int), s = .int .i64 (sm (ps.take i)) ∧ z = .int .i64 (i : Int) ∧ i ≤ n ∧ Below BB W7 W ∧ BB ≤ W.heap.size ∧ Row W BB 3 1 ra (i - 1) AL ∧ Row W BB 3 1 rn (i - 1) (List.replicate (i - 1) 0) ∧ Dj ra rn ∧ ∀ y ∈ AL, 0 ≤ y ∧ y ≤ 180) (fun _ _ _ z _ => n - (intOf z).toNat)
        case atStart => exact ⟨0, [], rfl, rfl, Nat.zero_le _, unhide HBY, by have := (unhide HBY).size; have h9 := unhide HBB; omega, unhide HRA, unhide HRN, fun q hq e => by simp [Value.ownBlock] at hq e; omega, fun y hy => by cases hy⟩
        case round =>
          obtain ⟨i, AL, rfl, rfl, hi, hW, hBW, hra, hrn, hdj, hal0⟩ := hrel
          have HW := hide hW
          have HRA := hide hra
          have HRN := hide hrn
          have HDJ := hide hdj
          have HAL := hide hal0
          obtain ⟨va, da, hva⟩ := row_frm hra
          obtain ⟨vn, dn, hvn⟩ := row_frm hrn
          subst hva hvn
          have HWX : Hid (Below W7.heap.size W7 wr) := hide (by have h9 := unhide HBB; rw [h9]; exact hW)
          have HBW2 := hide (bc (unhide HB) (unhide HWX))
          have HPx := hide ((unhide HP).below (unhide HWX))
          clear hW hra hrn hdj hal0
          by_cases hlt : i < n
          · have i1 : (i : Int) < (n : Int) := by omega
            have i0 : (0 : Int) ≤ (i : Int) := Int.natCast_nonneg _
            have iz : decide ((i : Int) < (n : Int)) = true := decide_eq_true i1
            obtain ⟨l, hx⟩ := get_some (unhide HPL) hlt
            obtain ⟨pk, rfl, _, _⟩ := row_sm (unhide HPx) (by omega)
            have kl := (unhide HPx).cellAt hx
            have lb := unhide HPB l (List.mem_of_getElem? hx)
            have HSM : Hid (sm (ps.take (i + 1)) = sm (ps.take i) + l) := hide (sm_take hx)
            have sb := sm_bd (ps.take i) (fun x hx => unhide HPB x (List.mem_of_mem_take hx))
            have stl : ((ps.take i).length : Int) ≤ 40 := by have := unhide HPL; rw [List.length_take]; omega
            generalize sm (ps.take i) = sv at *
            have ws : IntKind.i64.wrap (sv + l) = sv + l := wrap_i (by omega) (by omega)
            clear hx
            by_cases hi0 : 0 < i
            · have c1 : (0 : Int) < (i : Int) := by omega
              have cz : decide ((0 : Int) < (i : Int)) = true := decide_eq_true c1
              have HAT := hide (at_any a1 len1 cap1 w.heap.size zs1 (i : Int) 180 wr (code_bel (unhide HC1) (unhide HBW2)) hl1 (by omega) (by omega))
              go_wp2_with fail
              refine (unhide HAT).mono ?_
              rintro e Y1 ⟨x, rfl, x0, x1, hb1⟩
              have HRA := hide ((unhide HRA).below hb1)
              have HRN := hide ((unhide HRN).below hb1)
              have HW := hide ((unhide HW).trans (hb1.mono hBW))
              have hBW := Nat.le_trans hBW hb1.size
              have HI1 : Hid (i - 1 + 1 = i) := hide (by omega)
              clear hb1 HAT
              go_wp2_with (at_builtin; refine unhide ?_)
              refine hide ?_
              refine wpList_append_new _ rfl _ _ 23 rfl BB 3 iP _ 1 8 Try.underlying23 hi1 hp0 hp1 hp2 rfl (by decide) _ _ _ rfl ((unhide HRA).below (ba (Below.refl _ _) _)) _ 1 1 ([x].map (Value.int .i64)) rfl rfl (by first | exact news_cells _ _ rfl | exact news_cells _ _ (by simp)) ints_one (by unfold maxLen; omega) (by omega) (by first | omega | (simp; omega)) ?_
              intro ra' Z1 hown' hgrow _ hnew
              have hal : Below Y1.heap.size Y1 (Y1.alloc (Obj.cells #[Value.int .i64 (x)] 3)) := ba (Below.refl _ _) _

              have HRA2 : Hid (Row Z1 BB 3 1 ra' i (AL ++ [x])) := hide (by have h9 := hown'; rw [unhide HI1] at h9; unfold Row; rw [List.map_append]; exact h9)
              have HRN0 := HRN
              have HRN := hide (((unhide HRN).below hal).grown hgrow (fun q hq e => (unhide HDJ).symm q hq e))
              have HDJ := hide (((unhide HDJ).symm.new ((unhide HRN0).below hal) hnew).symm)
              have HW := hide (((unhide HW).trans (hal.mono hBW)).grown hgrow (by simp; omega) (fun q e => ((unhide HRA).lt q e).1))
              have hBW : BB ≤ Z1.heap.size := Nat.le_trans (by simp; omega) hgrow.size
              clear hown' hgrow hnew hal HRA
              go_wp2_with (at_builtin; refine unhide ?_)
              refine hide ?_
              refine wpList_append_new _ rfl _ _ 23 rfl BB 3 iP _ 1 8 Try.underlying23 hi1 hp0 hp1 hp2 rfl (by decide) _ _ _ rfl ((unhide HRN).below (ba (Below.refl _ _) _)) _ 1 1 ([0].map (Value.int .i64)) rfl rfl (by first | exact news_cells _ _ rfl | exact news_cells _ _ (by simp)) ints_one (by unfold maxLen; omega) (by omega) (by first | omega | (simp; omega)) ?_
              intro rn' Z2 hown' hgrow _ hnew
              have hal : Below Z1.heap.size Z1 (Z1.alloc (Obj.cells #[Value.int .i64 (0)] 3)) := ba (Below.refl _ _) _

              have HRN2 : Hid (Row Z2 BB 3 1 rn' i (List.replicate i 0)) := hide (by have h9 := hown'; rw [unhide HI1] at h9; have e := rep_app (i - 1); rw [unhide HI1] at e; rw [e]; unfold Row; rw [List.map_append]; exact h9)
              have HRA3 := hide (((unhide HRA2).below hal).grown hgrow (fun q hq e => (unhide HDJ) q hq e))
              have HDJ2 := hide ((unhide HDJ).new ((unhide HRA2).below hal) hnew)
              have HW := hide (((unhide HW).trans (hal.mono hBW)).grown hgrow (by simp; omega) (fun q e => ((unhide HRN).lt q e).1))
              have hBW : BB ≤ Z2.heap.size := Nat.le_trans (by simp; omega) hgrow.size
              have HAL2 := hide (in_app (unhide HAL) (x := x) (by omega))
              clear hown' hgrow hnew hal HRA2
              go_wp2_with fail
              go_roundw
              case rel => first | exact ⟨i + 1, _, by rw [unhide HSM], by simp, hlt, unhide HW, hBW, unhide HRA3, unhide HRN2, unhide HDJ2, unhide HAL2⟩ | ((repeat apply Exists.intro); refine ⟨?_, rfl⟩; exact ⟨i + 1, _, by rw [unhide HSM], by simp, hlt, unhide HW, hBW, unhide HRA3, unhide HRN2, unhide HDJ2, unhide HAL2⟩)
              case measure => first | (simp only [intOf]; omega) | (simp [intOf]; omega)
            · have c1 : ¬ (0 : Int) < (i : Int) := by omega
              have cz : decide ((0 : Int) < (i : Int)) = false := decide_eq_false c1
              have e0 : i - 1 = i + 1 - 1 := by omega
              rw [e0] at HRA HRN
              have HE0 := hide e0
              clear e0
              go_wp2_with fail
              go_roundw
              case rel => first | exact ⟨i + 1, AL, by rw [unhide HSM], by simp, hlt, unhide HW, hBW, by have h9 := unhide HRA; rw [← unhide HE0] at h9 ⊢; exact h9, by have h9 := unhide HRN; rw [← unhide HE0] at h9 ⊢; exact h9, unhide HDJ, unhide HAL⟩ | ((repeat apply Exists.intro); refine ⟨?_, rfl⟩; exact ⟨i + 1, AL, by rw [unhide HSM], by simp, hlt, unhide HW, hBW, by have h9 := unhide HRA; rw [← unhide HE0] at h9 ⊢; exact h9, by have h9 := unhide HRN; rw [← unhide HE0] at h9 ⊢; exact h9, unhide HDJ, unhide HAL⟩)
              case measure => first | (simp only [intOf]; omega) | (simp [intOf]; omega)
          · have iz : decide ((i : Int) < (n : Int)) = false := decide_eq_false (by omega)
            obtain rfl : n = i := by omega
            have HTK : Hid (ps.take n = ps) := hide (List.take_of_length_le (by have := unhide HPL; omega))
            have HAT1 := hide (fun (W : World) (hW : Below w.heap.size w W) => at_any a1 len1 cap1 w.heap.size zs1 50 20 W (code_bel (unhide HC1) hW) hl1 (by omega) (by omega))
            have HAT2 := hide (fun (W : World) (hW : Below w.heap.size w W) => at_any a1 len1 cap1 w.heap.size zs1 51 9 W (code_bel (unhide HC1) hW) hl1 (by omega) (by omega))
            go_wp2_with fail
            refine (unhide HAT1 _ (unhide HBW2)).mono ?_
            rintro e Y1 ⟨r, rfl, r0, r1, hb1⟩
            have HPx := hide ((unhide HPx).below hb1)
            have HRA := hide ((unhide HRA).below hb1)
            have HRN := hide ((unhide HRN).below hb1)
            have HBW2 := hide (bc (unhide HBW2) hb1)
            clear hb1
            go_wp2_with fail
            refine (unhide HAT2 _ (unhide HBW2)).mono ?_
            rintro e Y2 ⟨t, rfl, t0, t1, hb1⟩
            have HPx := hide ((unhide HPx).below hb1)
            have HRA := hide ((unhide HRA).below hb1)
            have HRN := hide ((unhide HRN).below hb1)
            have HBW2 := hide (bc (unhide HBW2) hb1)
            clear hb1 HAT1 HAT2
            have HFN := hide (fun (W : World) (h1 : Its W ua (bo ua) 0 ps) (h2 : Its W vn (bo vn) 0 (List.replicate (n - 1) 0)) => flP_any ua vn (bo ua) 0 (bo vn) 0 n (n - 1) ca dn ps (List.replicate (n - 1) 0) r t W (unhide HPL) (by simp) (by omega) (by omega) h1 h2)
            have HLA : Hid (AL.length = n - 1) := hide (by have := (unhide HRA).len; omega)
            have HFA := hide (fun (W : World) (h1 : Its W ua (bo ua) 0 ps) (h2 : Its W va (bo va) 0 AL) => flP_any ua va (bo ua) 0 (bo va) 0 n (n - 1) ca da ps AL r t W (unhide HPL) (unhide HLA) (by omega) (by omega) h1 h2)
            have HFM := hide (fun (W : World) (h1 : Its W ua (bo ua) 0 ps) (h2 : Its W va (bo va) 0 AL) => flM_any ua va (bo ua) 0 (bo va) 0 n (n - 1) ca da ps AL r t W (unhide HPL) (unhide HLA) (by omega) (by omega) h1 h2)
            have sb := sm_bd ps (unhide HPB)
            have hpl := unhide HPL
            have eN : flA ps (List.replicate (n - 1) 0) r t = (sm ps, 1, 0) := by
              rw [flOk_of (unhide HSTP) (by rw [List.length_replicate]; have := unhide HQL; omega) (fun x hx => by rw [List.eq_of_mem_replicate hx]; omega) (by omega) (by omega), lenP_sum (unhide HPB) (by omega), lenA_zero r t (by omega) (by omega)]
            have eA : flA ps AL r t = lenA (sm ps, 1, 0) r t AL := by
              rw [flOk_of (unhide HSTP) (by have := unhide HLA; have := unhide HQL; omega) (unhide HAL) (by omega) (by omega), lenP_sum (unhide HPB) (by omega)]
            have HGE : Hid (Ge (sm ps) (flA ps AL r t)) := hide (by
              rw [eA]
              refine ge_lenA sb.1 r t r0 t0 AL _ (fun _ => ⟨by simp, by simp⟩) (fun x hx => (unhide HAL x hx).1))
            have HBD : Hid (Bd3 (flA ps AL r t)) := hide (by rw [eA]; exact lenA_bd ⟨⟨by simp; omega, by simp; omega⟩, ⟨by simp, by simp⟩, ⟨by simp, by simp⟩, fun h => absurd rfl h⟩ _ _ _)
            rw [eN] at HFN
            rw [unhide HTK]
            clear eN eA
            generalize flA ps AL r t = f at *
            generalize sm ps = S at *
            obtain ⟨f0, f1, f2⟩ := f
            unfold tp3 at HFN HFA HFM
            simp only at HFN HFA HFM
            clear HTK
            go_wp2_with fail
            refine (unhide HFN _ (unhide HPx).its (unhide HRN).its).mono ?_
            rintro e Y3 ⟨rfl, hb1⟩
            have HPx := hide (((unhide HPx).below hb1).below (ba (Below.refl _ _) (Obj.cells #[Value.int .i64 S, Value.int .i64 1] 38)))
            have HRA := hide (((unhide HRA).below hb1).below (ba (Below.refl _ _) (Obj.cells #[Value.int .i64 S, Value.int .i64 1] 38)))
            have HBW2 := hide (ba (bc (unhide HBW2) hb1) (Obj.cells #[Value.int .i64 S, Value.int .i64 1] 38))
            clear hb1 HRN
            go_wp2_with fail
            refine (unhide HFA _ (unhide HPx).its (unhide HRA).its).mono ?_
            rintro e Y4 ⟨rfl, hb1⟩
            have g0 := keep1 hb1 (b := Y3.heap.size) (o := 0) (v := .int .i64 S) (by simp [go_sem])
            have g1 := keep1 hb1 (b := Y3.heap.size) (o := 1) (v := .int .i64 1) (by simp [go_sem])
            have HPx := hide (((unhide HPx).below hb1).below (ba (Below.refl _ _) (Obj.cells #[Value.int .i64 f0, Value.int .i64 f1] 38)))
            have HRA := hide (((unhide HRA).below hb1).below (ba (Below.refl _ _) (Obj.cells #[Value.int .i64 f0, Value.int .i64 f1] 38)))
            have HBW2 := hide (ba (bc (unhide HBW2) hb1) (Obj.cells #[Value.int .i64 f0, Value.int .i64 f1] 38))
            clear hb1
            go_wp2_with fail
            refine (unhide HFM _ (unhide HPx).its (unhide HRA).its).mono ?_
            rintro e Y5 ⟨rfl, hb1⟩
            have g0 := keep1 hb1 (ka g0)
            have g1 := keep1 hb1 (ka g1)
            have q0 := keep1 hb1 (b := Y4.heap.size) (o := 0) (v := .int .i64 f0) (by simp [go_sem])
            have q1 := keep1 hb1 (b := Y4.heap.size) (o := 1) (v := .int .i64 f1) (by simp [go_sem])
            have gl := cell_lt g0
            have ql := cell_lt q0
            have HBW2 := hide (bc (unhide HBW2) hb1)
            have ss : (S != S) = false := by simp
            have ff : (f2 != f2) = false := by simp
            clear hb1 HPx HRA
            by_cases hf2 : f2 = 0
            · subst hf2
              have HLS := hide (fun W => specLess_any f0 f1 S 1 W (by have := (unhide HBD).1; simp at this; omega) (by have := (unhide HBD).1; simp at this; omega) (by have := (unhide HBD).2.1; simp at this; omega) (by have := (unhide HBD).2.1; simp at this; omega) (by omega) (by omega) (by omega) (by omega))
              obtain ⟨lc, hlc⟩ := less_no (unhide HGE) rfl
              simp only at hlc
              rw [hlc] at HLS
              clear hlc
              go_wp2_with fail
              refine (unhide HLS _).mono ?_
              rintro e Y6 ⟨rfl, hb1⟩
              have HBW2 := hide (bc (ba (unhide HBW2) _) hb1)
              clear hb1
              go_wp2_with fail
              go_ret
              exact ⟨rfl, unhide HBW2⟩
            · have fz : (f2 != 0) = true := by simp [hf2]
              go_wp2_with fail
              go_ret
              exact ⟨rfl, ba (unhide HBW2) _⟩
  | some i =>
    obtain ⟨hk, hL⟩ := bn_meet (unhide HLL) (unhide HSTP) hf
    obtain ⟨bi1, bi2, bk, bl⟩ := begin_ok (unhide HSTP) hf
    rw [hpl] at bi2
    rw [hk, hL]
    rw [hL] at HR3 HR4
    have HSP := hide (sp_zero uc ud cc cd W3)
    have z0 : ((13 : Int) != 13) = false := by decide
    have zi : ((i : Int) != (i : Int)) = false := by simp
    clear hk hL HR3 HR4
    simp only [List.length_nil]
    go_wp2_with fail
    refine (unhide HSP).mono ?_
    rintro e W4 ⟨rfl, hb4⟩
    have HP := hide ((unhide HP).below hb4)
    have HQ := hide ((unhide HQ).below hb4)
    have HB := hide (bc (unhide HB) hb4)
    clear hb4 HSP
    obtain ⟨pb, rfl, hpbl, hpc⟩ := row_sm (unhide HP) (by omega)
    obtain ⟨qb, rfl, hqbl, hqc⟩ := row_sm (unhide HQ) (by have := unhide HNM; unfold fstB at hf; rw [List.find?_range_eq_some] at hf; obtain ⟨hm, _, _⟩ := hf; unfold meetsB at hm; rcases Nat.lt_or_ge i 2 with h9 | h9; (have : i - 1 = 0 := by omega); (rw [this] at hm; cases hm); omega)
    have wc : IntKind.i64.wrap ((i : Int) - 1) = ((i - 1 : Nat) : Int) := by rw [wrap_i (by omega) (by omega)]; omega
    have HBT := hide (fun (X : World) (hX : Below W4.heap.size W4 X) => bnP_any (some ⟨pb, 0, none⟩) (some ⟨qb, 0, none⟩) pb 0 qb 0 i (i - 1) ca cb (ps.take i) (bs.take (i - 1)) X (by rw [List.length_take]; omega) (by rw [List.length_take]; have := unhide HNM; omega) (by omega) (by omega) (fun _ => ⟨rfl, Nat.lt_of_lt_of_le hpbl hX.size, ((unhide HP).below hX).ints.take⟩) (fun _ => ⟨rfl, Nat.lt_of_lt_of_le hqbl hX.size, ((unhide HQ).below hX).ints.take⟩))
    rw [bk, bl] at HBT
    have hNM := unhide HNM
    go_wp2_with fail
    refine Go.Code.wp_mono (Only.to (fun _ _ h => h)) (fb17 (c := i - 1) (Pq := LenIs (i + 1)) (by omega) (by omega) (hide wc) (hide fun X hX => (unhide HBT X hX).mono fun e w' ⟨⟨r, he, hr⟩, hb⟩ => ⟨⟨r, he, by obtain ⟨u9, c9, h9⟩ := row_frm hr; exact ⟨u9, c9, h9⟩⟩, hb⟩) ?_)
    intro sv W5 hb5 hsv
    obtain ⟨so, cap9, rfl⟩ := hsv
    have HP := hide ((unhide HP).below hb5)
    have HB := hide (bc (unhide HB) hb5)
    have j1 : decide ((i : Int) < 1) = false := decide_eq_false (by omega)
    have j2 : ¬ (i : Int) < 1 := by omega
    have wi1 : IntKind.i64.wrap ((i : Int) + 1) = ((i + 1 : Nat) : Int) := by rw [wrap_i (by omega) (by omega)]; omega
    have ne9 : (((i + 1 : Nat) : Int) != ((i + 1 : Nat) : Int)) = false := by simp
    clear hb5 HBT wc bk bl hf HQ hpl hql hNM
    generalize hI1 : i + 1 = I1 at *
    clear hI1
    go_wp2_with fail
    generalize hUA : (some (⟨pb, 0, none⟩ : Addr)) = ua at *
    clear hUA
    have HM0 := hide (show 1 ≤ n from n1)
    have HBX := hide (Below.refl W5.heap.size W5)
    have HRA := hide ((row_made W5 3 W5.heap.size 1 (Nat.le_refl _) _ rfl).below (ba (Below.refl _ _) (Obj.cells #[] 3)))
    have HRN := hide (row_made (W5.alloc (Obj.cells #[] 3)) 3 W5.heap.size 1 (by simp) (W5.heap.size + 1) (by simp))
    have HBY := hide (ba (ba (Below.refl W5.heap.size W5) (Obj.cells #[] 3)) (Obj.cells #[] 3))
    generalize hBB : W5.heap.size = BB at *
    have HBB := hide hBB
    clear hBB
    go_wp2_with fail
    go_loopw [20, 21, 22, 23] (fun s ra rn z W => ∃ (i : Nat) (AL : List Int), s = .int .i64 (sm (ps.take i)) ∧ z = .int .i64 (i : Int) ∧ i ≤ n ∧ Below BB W5 W ∧ BB ≤ W.heap.size ∧ Row W BB 3 1 ra (i - 1) AL ∧ Row W BB 3 1 rn (i - 1) (List.replicate (i - 1) 0) ∧ Dj ra rn ∧ ∀ y ∈ AL, 0 ≤ y ∧ y ≤ 180) (fun _ _ _ z _ => n - (intOf z).toNat)
    case atStart => exact ⟨0, [], rfl, rfl, Nat.zero_le _, unhide HBY, by have := (unhide HBY).size; have h9 := unhide HBB; omega, unhide HRA, unhide HRN, fun q hq e => by simp [Value.ownBlock] at hq e; omega, fun y hy => by cases hy⟩
    case round =>
      obtain ⟨i, AL, rfl, rfl, hi, hW, hBW, hra, hrn, hdj, hal0⟩ := hrel
      have HW := hide hW
      have HRA := hide hra
      have HRN := hide hrn
      have HDJ := hide hdj
      have HAL := hide hal0
      obtain ⟨va, da, hva⟩ := row_frm hra
      obtain ⟨vn, dn, hvn⟩ := row_frm hrn
      subst hva hvn
      have HWX : Hid (Below W5.heap.size W5 wr) := hide (by have h9 := unhide HBB; rw [h9]; exact hW)
      have HBW2 := hide (bc (unhide HB) (unhide HWX))
      have HPx := hide ((unhide HP).below (unhide HWX))
      clear hW hra hrn hdj hal0
      by_cases hlt : i < n
      · have i1 : (i : Int) < (n : Int) := by omega
        have i0 : (0 : Int) ≤ (i : Int) := Int.natCast_nonneg _
        have iz : decide ((i : Int) < (n : Int)) = true := decide_eq_true i1
        obtain ⟨l, hx⟩ := get_some (unhide HPL) hlt
        obtain ⟨pk, rfl, _, _⟩ := row_sm (unhide HPx) (by omega)
        have kl := (unhide HPx).cellAt hx
        have lb := unhide HPB l (List.mem_of_getElem? hx)
        have HSM : Hid (sm (ps.take (i + 1)) = sm (ps.take i) + l) := hide (sm_take hx)
        have sb := sm_bd (ps.take i) (fun x hx => unhide HPB x (List.mem_of_mem_take hx))
        have stl : ((ps.take i).length : Int) ≤ 40 := by have := unhide HPL; rw [List.length_take]; omega
        generalize sm (ps.take i) = sv at *
        have ws : IntKind.i64.wrap (sv + l) = sv + l := wrap_i (by omega) (by omega)
        clear hx
        by_cases hi0 : 0 < i
        · have c1 : (0 : Int) < (i : Int) := by omega
          have cz : decide ((0 : Int) < (i : Int)) = true := decide_eq_true c1
          have HAT := hide (at_any a1 len1 cap1 w.heap.size zs1 (i : Int) 180 wr (code_bel (unhide HC1) (unhide HBW2)) hl1 (by omega) (by omega))
          go_wp2_with fail
          refine (unhide HAT).mono ?_
          rintro e Y1 ⟨x, rfl, x0, x1, hb1⟩
          have HRA := hide ((unhide HRA).below hb1)
          have HRN := hide ((unhide HRN).below hb1)
          have HW := hide ((unhide HW).trans (hb1.mono hBW))
          have hBW := Nat.le_trans hBW hb1.size
          have HI1 : Hid (i - 1 + 1 = i) := hide (by omega)
          clear hb1 HAT
          go_wp2_with (at_builtin; refine unhide ?_)
          refine hide ?_
          refine wpList_append_new _ rfl _ _ 23 rfl BB 3 iP _ 1 8 Try.underlying23 hi1 hp0 hp1 hp2 rfl (by decide) _ _ _ rfl ((unhide HRA).below (ba (Below.refl _ _) _)) _ 1 1 ([x].map (Value.int .i64)) rfl rfl (by first | exact news_cells _ _ rfl | exact news_cells _ _ (by simp)) ints_one (by unfold maxLen; omega) (by omega) (by first | omega | (simp; omega)) ?_
          intro ra' Z1 hown' hgrow _ hnew
          have hal : Below Y1.heap.size Y1 (Y1.alloc (Obj.cells #[Value.int .i64 (x)] 3)) := ba (Below.refl _ _) _

          have HRA2 : Hid (Row Z1 BB 3 1 ra' i (AL ++ [x])) := hide (by have h9 := hown'; rw [unhide HI1] at h9; unfold Row; rw [List.map_append]; exact h9)
          have HRN0 := HRN
          have HRN := hide (((unhide HRN).below hal).grown hgrow (fun q hq e => (unhide HDJ).symm q hq e))
          have HDJ := hide (((unhide HDJ).symm.new ((unhide HRN0).below hal) hnew).symm)
          have HW := hide (((unhide HW).trans (hal.mono hBW)).grown hgrow (by simp; omega) (fun q e => ((unhide HRA).lt q e).1))
          have hBW : BB ≤ Z1.heap.size := Nat.le_trans (by simp; omega) hgrow.size
          clear hown' hgrow hnew hal HRA
          go_wp2_with (at_builtin; refine unhide ?_)
          refine hide ?_
          refine wpList_append_new _ rfl _ _ 23 rfl BB 3 iP _ 1 8 Try.underlying23 hi1 hp0 hp1 hp2 rfl (by decide) _ _ _ rfl ((unhide HRN).below (ba (Below.refl _ _) _)) _ 1 1 ([0].map (Value.int .i64)) rfl rfl (by first | exact news_cells _ _ rfl | exact news_cells _ _ (by simp)) ints_one (by unfold maxLen; omega) (by omega) (by first | omega | (simp; omega)) ?_
          intro rn' Z2 hown' hgrow _ hnew
          have hal : Below Z1.heap.size Z1 (Z1.alloc (Obj.cells #[Value.int .i64 (0)] 3)) := ba (Below.refl _ _) _

          have HRN2 : Hid (Row Z2 BB 3 1 rn' i (List.replicate i 0)) := hide (by have h9 := hown'; rw [unhide HI1] at h9; have e := rep_app (i - 1); rw [unhide HI1] at e; rw [e]; unfold Row; rw [List.map_append]; exact h9)
          have HRA3 := hide (((unhide HRA2).below hal).grown hgrow (fun q hq e => (unhide HDJ) q hq e))
          have HDJ2 := hide ((unhide HDJ).new ((unhide HRA2).below hal) hnew)
          have HW := hide (((unhide HW).trans (hal.mono hBW)).grown hgrow (by simp; omega) (fun q e => ((unhide HRN).lt q e).1))
          have hBW : BB ≤ Z2.heap.size := Nat.le_trans (by simp; omega) hgrow.size
          have HAL2 := hide (in_app (unhide HAL) (x := x) (by omega))
          clear hown' hgrow hnew hal HRA2
          go_wp2_with fail
          go_roundw
          case rel => first | exact ⟨i + 1, _, by rw [unhide HSM], by simp, hlt, unhide HW, hBW, unhide HRA3, unhide HRN2, unhide HDJ2, unhide HAL2⟩ | ((repeat apply Exists.intro); refine ⟨?_, rfl⟩; exact ⟨i + 1, _, by rw [unhide HSM], by simp, hlt, unhide HW, hBW, unhide HRA3, unhide HRN2, unhide HDJ2, unhide HAL2⟩)
          case measure => first | (simp only [intOf]; omega) | (simp [intOf]; omega)
        · have c1 : ¬ (0 : Int) < (i : Int) := by omega
          have cz : decide ((0 : Int) < (i : Int)) = false := decide_eq_false c1
          have e0 : i - 1 = i + 1 - 1 := by omega
          rw [e0] at HRA HRN
          have HE0 := hide e0
          clear e0
          go_wp2_with fail
          go_roundw
          case rel => first | exact ⟨i + 1, AL, by rw [unhide HSM], by simp, hlt, unhide HW, hBW, by have h9 := unhide HRA; rw [← unhide HE0] at h9 ⊢; exact h9, by have h9 := unhide HRN; rw [← unhide HE0] at h9 ⊢; exact h9, unhide HDJ, unhide HAL⟩ | ((repeat apply Exists.intro); refine ⟨?_, rfl⟩; exact ⟨i + 1, AL, by rw [unhide HSM], by simp, hlt, unhide HW, hBW, by have h9 := unhide HRA; rw [← unhide HE0] at h9 ⊢; exact h9, by have h9 := unhide HRN; rw [← unhide HE0] at h9 ⊢; exact h9, unhide HDJ, unhide HAL⟩)
          case measure => first | (simp only [intOf]; omega) | (simp [intOf]; omega)
      · have iz : decide ((i : Int) < (n : Int)) = false := decide_eq_false (by omega)
        obtain rfl : n = i := by omega
        have HTK : Hid (ps.take n = ps) := hide (List.take_of_length_le (by have := unhide HPL; omega))
        have HAT1 := hide (fun (W : World) (hW : Below w.heap.size w W) => at_any a1 len1 cap1 w.heap.size zs1 50 20 W (code_bel (unhide HC1) hW) hl1 (by omega) (by omega))
        have HAT2 := hide (fun (W : World) (hW : Below w.heap.size w W) => at_any a1 len1 cap1 w.heap.size zs1 51 9 W (code_bel (unhide HC1) hW) hl1 (by omega) (by omega))
        go_wp2_with fail
        refine (unhide HAT1 _ (unhide HBW2)).mono ?_
        rintro e Y1 ⟨r, rfl, r0, r1, hb1⟩
        have HPx := hide ((unhide HPx).below hb1)
        have HRA := hide ((unhide HRA).below hb1)
        have HRN := hide ((unhide HRN).below hb1)
        have HBW2 := hide (bc (unhide HBW2) hb1)
        clear hb1
        go_wp2_with fail
        refine (unhide HAT2 _ (unhide HBW2)).mono ?_
        rintro e Y2 ⟨t, rfl, t0, t1, hb1⟩
        have HPx := hide ((unhide HPx).below hb1)
        have HRA := hide ((unhide HRA).below hb1)
        have HRN := hide ((unhide HRN).below hb1)
        have HBW2 := hide (bc (unhide HBW2) hb1)
        clear hb1 HAT1 HAT2
        have HFN := hide (fun (W : World) (h1 : Its W ua (bo ua) 0 ps) (h2 : Its W vn (bo vn) 0 (List.replicate (n - 1) 0)) => flP_any ua vn (bo ua) 0 (bo vn) 0 n (n - 1) ca dn ps (List.replicate (n - 1) 0) r t W (unhide HPL) (by simp) (by omega) (by omega) h1 h2)
        have HLA : Hid (AL.length = n - 1) := hide (by have := (unhide HRA).len; omega)
        have HFA := hide (fun (W : World) (h1 : Its W ua (bo ua) 0 ps) (h2 : Its W va (bo va) 0 AL) => flP_any ua va (bo ua) 0 (bo va) 0 n (n - 1) ca da ps AL r t W (unhide HPL) (unhide HLA) (by omega) (by omega) h1 h2)
        have HFM := hide (fun (W : World) (h1 : Its W ua (bo ua) 0 ps) (h2 : Its W va (bo va) 0 AL) => flM_any ua va (bo ua) 0 (bo va) 0 n (n - 1) ca da ps AL r t W (unhide HPL) (unhide HLA) (by omega) (by omega) h1 h2)
        have sb := sm_bd ps (unhide HPB)
        have hpl := unhide HPL
        have eN : flA ps (List.replicate (n - 1) 0) r t = (sm ps, 1, 0) := by
          rw [flOk_of (unhide HSTP) (by rw [List.length_replicate]; have := unhide HQL; omega) (fun x hx => by rw [List.eq_of_mem_replicate hx]; omega) (by omega) (by omega), lenP_sum (unhide HPB) (by omega), lenA_zero r t (by omega) (by omega)]
        have eA : flA ps AL r t = lenA (sm ps, 1, 0) r t AL := by
          rw [flOk_of (unhide HSTP) (by have := unhide HLA; have := unhide HQL; omega) (unhide HAL) (by omega) (by omega), lenP_sum (unhide HPB) (by omega)]
        have HGE : Hid (Ge (sm ps) (flA ps AL r t)) := hide (by
          rw [eA]
          refine ge_lenA sb.1 r t r0 t0 AL _ (fun _ => ⟨by simp, by simp⟩) (fun x hx => (unhide HAL x hx).1))
        have HBD : Hid (Bd3 (flA ps AL r t)) := hide (by rw [eA]; exact lenA_bd ⟨⟨by simp; omega, by simp; omega⟩, ⟨by simp, by simp⟩, ⟨by simp, by simp⟩, fun h => absurd rfl h⟩ _ _ _)
        rw [eN] at HFN
        rw [unhide HTK]
        clear eN eA
        generalize flA ps AL r t = f at *
        generalize sm ps = S at *
        obtain ⟨f0, f1, f2⟩ := f
        unfold tp3 at HFN HFA HFM
        simp only at HFN HFA HFM
        clear HTK
        go_wp2_with fail
        refine (unhide HFN _ (unhide HPx).its (unhide HRN).its).mono ?_
        rintro e Y3 ⟨rfl, hb1⟩
        have HPx := hide (((unhide HPx).below hb1).below (ba (Below.refl _ _) (Obj.cells #[Value.int .i64 S, Value.int .i64 1] 38)))
        have HRA := hide (((unhide HRA).below hb1).below (ba (Below.refl _ _) (Obj.cells #[Value.int .i64 S, Value.int .i64 1] 38)))
        have HBW2 := hide (ba (bc (unhide HBW2) hb1) (Obj.cells #[Value.int .i64 S, Value.int .i64 1] 38))
        clear hb1 HRN
        go_wp2_with fail
        refine (unhide HFA _ (unhide HPx).its (unhide HRA).its).mono ?_
        rintro e Y4 ⟨rfl, hb1⟩
        have g0 := keep1 hb1 (b := Y3.heap.size) (o := 0) (v := .int .i64 S) (by simp [go_sem])
        have g1 := keep1 hb1 (b := Y3.heap.size) (o := 1) (v := .int .i64 1) (by simp [go_sem])
        have HPx := hide (((unhide HPx).below hb1).below (ba (Below.refl _ _) (Obj.cells #[Value.int .i64 f0, Value.int .i64 f1] 38)))
        have HRA := hide (((unhide HRA).below hb1).below (ba (Below.refl _ _) (Obj.cells #[Value.int .i64 f0, Value.int .i64 f1] 38)))
        have HBW2 := hide (ba (bc (unhide HBW2) hb1) (Obj.cells #[Value.int .i64 f0, Value.int .i64 f1] 38))
        clear hb1
        go_wp2_with fail
        refine (unhide HFM _ (unhide HPx).its (unhide HRA).its).mono ?_
        rintro e Y5 ⟨rfl, hb1⟩
        have g0 := keep1 hb1 (ka g0)
        have g1 := keep1 hb1 (ka g1)
        have q0 := keep1 hb1 (b := Y4.heap.size) (o := 0) (v := .int .i64 f0) (by simp [go_sem])
        have q1 := keep1 hb1 (b := Y4.heap.size) (o := 1) (v := .int .i64 f1) (by simp [go_sem])
        have gl := cell_lt g0
        have ql := cell_lt q0
        have HBW2 := hide (bc (unhide HBW2) hb1)
        have ss : (S != S) = false := by simp
        have ff : (f2 != f2) = false := by simp
        clear hb1 HPx HRA
        by_cases hf2 : f2 = 0
        · subst hf2
          have HLS := hide (fun W => specLess_any f0 f1 S 1 W (by have := (unhide HBD).1; simp at this; omega) (by have := (unhide HBD).1; simp at this; omega) (by have := (unhide HBD).2.1; simp at this; omega) (by have := (unhide HBD).2.1; simp at this; omega) (by omega) (by omega) (by omega) (by omega))
          obtain ⟨lc, hlc⟩ := less_no (unhide HGE) rfl
          simp only at hlc
          rw [hlc] at HLS
          clear hlc
          go_wp2_with fail
          refine (unhide HLS _).mono ?_
          rintro e Y6 ⟨rfl, hb1⟩
          have HBW2 := hide (bc (ba (unhide HBW2) _) hb1)
          clear hb1
          go_wp2_with fail
          go_ret
          exact ⟨rfl, unhide HBW2⟩
        · have fz : (f2 != 0) = true := by simp [hf2]
          go_wp2_with fail
          go_ret
          exact ⟨rfl, ba (unhide HBW2) _⟩
end Go.Proofs.Ytimkinpbimangaa

namespace Go.Proofs.Ytimkinpbimangaa
open Go.ChangeShapes Go.WideShapes Go.ChangeAt Go.RowKit
set_option linter.unusedVariables false
set_option linter.unusedSimpArgs false


/-- what the walk is told of bytes that came in -/
def IsRow (k : IntKind) (w : World) (a : Option Addr) (len cap : Nat) (zs : List Int) : Prop :=
  (a = none ∧ len = 0 ∧ cap = 0 ∧ zs = []) ∨
  ∃ x, a = some x ∧ len ≤ cap ∧ cap ≤ maxLen ∧ zs.length = cap ∧ (∀ i, i < zs.length → w.cell? (x.add i) = some (.int k (zs.getD i 0))) ∧ ∀ n ∈ zs, (Lit.int k n).wf = true
theorem row_code {w : World} {a : Option Addr} {len cap : Nat} {zs : List Int} (h : IsRow .u8 w a len cap zs) : Code w.heap.size w a len cap zs ∧ len ≤ maxLen := by
  rcases h with ⟨rfl, rfl, rfl, rfl⟩ | ⟨x, rfl, hl, hm, hz, hcell, hwz⟩
  · exact ⟨.inl rfl, by unfold maxLen; omega⟩
  · refine ⟨?_, Nat.le_trans hl hm⟩
    by_cases h0 : len = 0
    · exact .inl h0
    · obtain ⟨b, off, spot⟩ := x
      have hc := hcell 0 (by omega)
      have hspot : spot = none := by simpa [Addr.add] using World.cell?_spot hc
      subst hspot
      have hc0 : w.cell? ⟨b, off, none⟩ = some (.int .u8 (zs.getD 0 0)) := by simpa [Addr.add] using hc
      refine .inr ⟨b, off, rfl, cell_lt hc0, cell_lt hc0, hl, hm, hz, fun i hi => ?_, fun i => ?_⟩
      · have hci := hcell i hi
        by_cases e0 : i = 0
        · subst e0; simpa [Addr.add] using hci
        · simpa [Addr.add, e0] using hci
      by_cases hi : i < zs.length
      · have e : zs.getD i 0 = zs[i] := by simp [List.getD, hi]
        rw [e]
        exact bounds_u8 (hwz _ (List.getElem_mem hi))
      · have e : zs.getD i 0 = 0 := by simp [List.getD, List.getElem?_eq_none (Nat.le_of_not_lt hi)]
        rw [e]; omega

set_option maxHeartbeats 400000 in
set_option maxRecDepth 100000 in
theorem fnBent_walk (a : Option Addr) (len cap : Nat) (zs : List Int) (a2 : Option Addr) (len2 cap2 : Nat) (zs2 : List Int) (w : World) (h : IsRow .u8 w a len cap zs) (h2 : IsRow .u8 w a2 len2 cap2 zs2) :
    Calls Try.prog 3 #[.slice a len cap, .slice a2 len2 cap2] w fun e w' => e = .returned (.bool true) ∧ Below w.heap.size w w' := by
  obtain ⟨hc, hm⟩ := row_code h
  obtain ⟨hc2, hm2⟩ := row_code h2
  unfold maxLen at hm hm2
  by_cases hl : len ≤ 1048576
  · by_cases hl2 : len2 ≤ 1048576
    · exact fnBent_core a a2 len cap len2 cap2 zs zs2 w hl hl2 hc hc2
    · have t1 : decide ((1048576 : Int) < (len : Int)) = false := decide_eq_false (by omega)
      have t2 : decide ((1048576 : Int) < (len2 : Int)) = true := decide_eq_true (by omega)
      clear hc h hc2 h2
      go_enter Try.func3, Try.ntmps3
      go_wp2
      go_ret
      exact ⟨rfl, Below.refl _ _⟩
  · have t1 : decide ((1048576 : Int) < (len : Int)) = true := decide_eq_true (by omega)
    clear hc h hc2 h2
    go_enter Try.func3, Try.ntmps3
    go_wp2
    go_ret
    exact ⟨rfl, Below.refl _ _⟩

theorem fnBent_own : ownKnob Try.prog.godebug = none := by kernel_rfl
theorem fnBent_laidOut : laidOutB Try.prog = true := by kernel_rfl

set_option maxRecDepth 100000 in
theorem fnBent_lifted (os : Os) (started : os.Started) (H : Type) (enc : TypeId × Value → H) :
    ReturnsInHanded {} Try.checked os 3 .any (Rows.fnBentSpec.pre6 enc Try.prog Try.f3 Rows.fnBentRow.domain false) (Rows.fnBentSpec.post enc Try.prog Try.f3 false true false false) := by
  refine returnsInHanded_of_change (C := Try.checked) fnBent_own started (by kernel_rfl) Try.func3
    (ChangeSpec.witness6 (enc := enc) (C := Try.checked) false ⟨#[], #[.slice none 0 0, .slice none 0 0], []⟩ 8 (by kernel_rfl) (by kernel_rfl) (by kernel_rfl) (by kernel_rfl)) ?_
  intro W base args ds gs before hval0 hW hcnd _
  have hval : ∀ (j : Nat) t v, Try.f3.params[j]? = some t → args[j]? = some v → Value.okWide Try.prog W .any base t v := hval0
  have hW' := hW
  obtain ⟨p, q, hA0, hV, rfl, hfz, hnd⟩ := hW
  have hA : DataW.TrodAll enc Try.prog W 0 (fun _ => true) true Try.f3.params.toList args.toList ds p := hA0
  rw [Try.params3] at hA hval
  obtain ⟨v0, vs0, d0, ds0, p0, q0, hargs, rfl, rfl, h0, r0⟩ := trodAll_cons hA
  obtain ⟨v1, vs1, d1, ds1, p1, q1, rfl, rfl, rfl, h1, r1⟩ := trodAll_cons r0
  obtain ⟨rfl, rfl, rfl⟩ := trodAll_nil r1
  obtain rfl : args = #[v0, v1] := by cases args; simp_all
  obtain ⟨rfl, rfl⟩ := trodVars_none hV
  obtain ⟨a0, len0, cap0, rfl⟩ := okWide_slice Try.underlying22 (hval 0 22 v0 rfl rfl)
  have k0 := h0
  have lt0 : ∀ x ∈ p0, x.block < W.heap.size := by obtain ⟨m, hm⟩ := k0; exact DataW.trod_lt m _ _ _ hm
  obtain ⟨z0, w0⟩ : ∃ zs, IsRow .u8 W a0 len0 cap0 zs := by
    obtain ⟨fuel, hf⟩ := h0
    rcases open_ints Try.underlying22 Try.underlying5 (by kernel_rfl) hf with ⟨hcs, _⟩ | ⟨x, l, c, zs, hcs, _, hl, hm, hz, _, hcell, hwz⟩
    · simp [Value.cells] at hcs
      obtain ⟨rfl, rfl, rfl⟩ := hcs
      exact ⟨[], .inl ⟨rfl, rfl, rfl, rfl⟩⟩
    · simp [Value.cells] at hcs
      obtain ⟨rfl, rfl, rfl⟩ := hcs
      exact ⟨zs, .inr ⟨_, rfl, hl, hm, by simpa using hz, hcell, hwz⟩⟩
  obtain ⟨a1, len1, cap1, rfl⟩ := okWide_slice Try.underlying22 (hval 1 22 v1 rfl rfl)
  have k1 := h1
  have lt1 : ∀ x ∈ p1, x.block < W.heap.size := by obtain ⟨m, hm⟩ := k1; exact DataW.trod_lt m _ _ _ hm
  obtain ⟨z1, w1⟩ : ∃ zs, IsRow .u8 W a1 len1 cap1 zs := by
    obtain ⟨fuel, hf⟩ := h1
    rcases open_ints Try.underlying22 Try.underlying5 (by kernel_rfl) hf with ⟨hcs, _⟩ | ⟨x, l, c, zs, hcs, _, hl, hm, hz, _, hcell, hwz⟩
    · simp [Value.cells] at hcs
      obtain ⟨rfl, rfl, rfl⟩ := hcs
      exact ⟨[], .inl ⟨rfl, rfl, rfl, rfl⟩⟩
    · simp [Value.cells] at hcs
      obtain ⟨rfl, rfl, rfl⟩ := hcs
      exact ⟨zs, .inr ⟨_, rfl, hl, hm, by simpa using hz, hcell, hwz⟩⟩
  clear hA0 hval0
  refine (fnBent_walk a0 len0 cap0 z0 a1 len1 cap1 z1 W w0 w1).mono fun e W' ⟨he, bel⟩ => ?_
  subst he
  exact ⟨_, rfl, _, _, _, [], _, [], hW', trodAll_mk1 (shut_bool Try.underlying4 _), (trodAll_cons_mk (Below.trod fnBent_laidOut (by kernel_rfl) (of_decide_eq_true (by kernel_rfl)) k0 bel lt0) (trodAll_cons_mk (Below.trod fnBent_laidOut (by kernel_rfl) (of_decide_eq_true (by kernel_rfl)) k1 bel lt1) trodAll_mk0)), rfl, bel.frame _, fun h => by cases h⟩

theorem fnBent_over : Rows.fnBentRow.holds Try.pinned (OpenSpec.ofChange Rows.fnBentSpec) :=
  OpenClaim.holds_of_wide 3 Try.f3 rfl rfl rfl rfl rfl rfl rfl ⟨rfl, rfl, rfl, rfl, rfl⟩ rfl rfl rfl rfl rfl (by kernel_rfl) Try.func3 (by kernel_rfl)
    (of_decide_eq_true (by kernel_rfl)) (by unfold Func.isWrapper; first | (rw [if_pos (by decide +kernel)]; kernel_rfl) | (rw [if_neg (by decide +kernel)]; exact ⟨rfl, rfl⟩))
    (fun os started H enc _ => fnBent_lifted os started H enc)

/-- The statement, as it was given. -/
theorem fnBent_holds : Rows.FnBentSaid := fnBent_over
#print axioms fnBent_holds
end Go.Proofs.Ytimkinpbimangaa
