/-
  What two segments of one line have in common, as the program finds it.
-/
import Derived.Test.YtimkinpbimangaaBounds
namespace Go.Proofs.Ytimkinpbimangaa
open Go.ChangeShapes Go.WideShapes Go.ChangeAt Go.RowKit
set_option linter.unusedVariables false
set_option linter.unusedSimpArgs false

/-- spots as cells -/
def sCells (L : List Sp) : List Value := L.flatMap fun s => [.int .i64 s.1, .int .i64 s.2.1, .int .i64 s.2.2]
/-- the value is a slice of these spots in a row of its own, from block B on -/
def IsSpots (B : Nat) (w : World) (v : Value) (L : List Sp) : Prop :=
  (v = .slice none 0 0 ∧ L = []) ∨ ∃ k cap : Nat, v = .slice (some ⟨k, 0, none⟩) L.length cap ∧ B ≤ k ∧ w.heap[k]? = some (.cells (sCells L).toArray 93 (0, 0))
theorem blk_new (W : World) (o : Obj) : (W.alloc o).heap[W.heap.size]? = some o := by
  have h : (W.alloc o).heap = W.heap.push o := rfl
  rw [h, Array.getElem?_push_size]
theorem keepb {W w1 : World} (hb : Below W.heap.size W w1) {k : Nat} {o : Obj} (h : W.heap[k]? = some o) : w1.heap[k]? = some o :=
  (hb.block k (Array.getElem?_eq_some_iff.1 h).1).trans h
theorem IsSpots.below {B : Nat} {w w' : World} {v : Value} {L : List Sp} (h : IsSpots B w v L) (hb : Below w.heap.size w w') : IsSpots B w' v L := by
  rcases h with h | ⟨k, cap, h1, h2, h3⟩
  · exact .inl h
  · exact .inr ⟨k, cap, h1, h2, keepb hb h3⟩
theorem red_one (x y : Int) : red x y 1 = (x, y, 1) := by
  simp [red, redG]

set_option maxRecDepth 100000 in
set_option maxHeartbeats 1000000 in
theorem apart1 (a1 a2 b1 b2 c1 c2 d1 d2 s : Int) (w : World) (hs : (s != 0) = true)
    (H1 : Hid (∀ W, Calls Try.prog 88 #[.agg #[.int .i64 a1, .int .i64 a2], .agg #[.int .i64 b1, .int .i64 b2], .agg #[.int .i64 c1, .int .i64 c2]] W fun e w' => e = .returned (.int .i64 s) ∧ Below W.heap.size W w')) :
    Calls Try.prog 74 #[.agg #[.int .i64 a1, .int .i64 a2, .int .i64 b1, .int .i64 b2], .agg #[.int .i64 c1, .int .i64 c2, .int .i64 d1, .int .i64 d2]] w fun e w' => e = .returned (.slice none 0 0) ∧ Below w.heap.size w w' := by
  go_enter Try.func74, Try.ntmps74
  go_wp2_with fail
  refine (unhide H1 _).mono ?_
  rintro e W1 ⟨rfl, hb⟩
  have HB1 := hide hb
  clear hb
  go_wp2_with fail
  go_ret
  exact ⟨rfl, bc (ba (ba (Below.refl _ _) _) _) (unhide HB1)⟩
set_option maxRecDepth 100000 in
set_option maxHeartbeats 1000000 in
theorem apart2 (a1 a2 b1 b2 c1 c2 d1 d2 u : Int) (w : World) (hs : (u != 0) = true)
    (H1 : Hid (∀ W, Calls Try.prog 88 #[.agg #[.int .i64 a1, .int .i64 a2], .agg #[.int .i64 b1, .int .i64 b2], .agg #[.int .i64 c1, .int .i64 c2]] W fun e w' => e = .returned (.int .i64 0) ∧ Below W.heap.size W w'))
    (H2 : Hid (∀ W, Calls Try.prog 88 #[.agg #[.int .i64 c1, .int .i64 c2], .agg #[.int .i64 d1, .int .i64 d2], .agg #[.int .i64 a1, .int .i64 a2]] W fun e w' => e = .returned (.int .i64 u) ∧ Below W.heap.size W w')) :
    Calls Try.prog 74 #[.agg #[.int .i64 a1, .int .i64 a2, .int .i64 b1, .int .i64 b2], .agg #[.int .i64 c1, .int .i64 c2, .int .i64 d1, .int .i64 d2]] w fun e w' => e = .returned (.slice none 0 0) ∧ Below w.heap.size w w' := by
  go_enter Try.func74, Try.ntmps74
  go_wp2_with fail
  refine (unhide H1 _).mono ?_
  rintro e W1 ⟨rfl, hb⟩
  have k1_0 := keep1 hb (b := w.heap.size) (o := 0) (v := .int .i64 a1) (by simp (maxDischargeDepth := 12) [go_sem, le1, lt1, *])
  have k1_1 := keep1 hb (b := w.heap.size) (o := 1) (v := .int .i64 a2) (by simp (maxDischargeDepth := 12) [go_sem, le1, lt1, *])
  have k1_2 := keep1 hb (b := w.heap.size) (o := 2) (v := .int .i64 b1) (by simp (maxDischargeDepth := 12) [go_sem, le1, lt1, *])
  have k1_3 := keep1 hb (b := w.heap.size) (o := 3) (v := .int .i64 b2) (by simp (maxDischargeDepth := 12) [go_sem, le1, lt1, *])
  have k1_4 := keep1 hb (b := w.heap.size + 1) (o := 0) (v := .int .i64 c1) (by simp (maxDischargeDepth := 12) [go_sem, le1, lt1, *])
  have k1_5 := keep1 hb (b := w.heap.size + 1) (o := 1) (v := .int .i64 c2) (by simp (maxDischargeDepth := 12) [go_sem, le1, lt1, *])
  have k1_6 := keep1 hb (b := w.heap.size + 1) (o := 2) (v := .int .i64 d1) (by simp (maxDischargeDepth := 12) [go_sem, le1, lt1, *])
  have k1_7 := keep1 hb (b := w.heap.size + 1) (o := 3) (v := .int .i64 d2) (by simp (maxDischargeDepth := 12) [go_sem, le1, lt1, *])
  have HB1 := hide hb
  clear hb
  have lak1_0 := cell_lt k1_0
  have lbk1_0 := Nat.le_of_lt lak1_0
  have lck1_0 := lt1 (k := 1) lak1_0
  have ldk1_0 := lt1 (k := 1) lck1_0
  have lek1_0 := lt1 (k := 1) ldk1_0
  have lak1_4 := cell_lt k1_4
  have lbk1_4 := Nat.le_of_lt lak1_4
  have lck1_4 := lt1 (k := 1) lak1_4
  have ldk1_4 := lt1 (k := 1) lck1_4
  have lek1_4 := lt1 (k := 1) ldk1_4
  go_wp2_with fail
  refine (unhide H2 _).mono ?_
  rintro e W2 ⟨rfl, hb⟩
  have HB2 := hide hb
  clear hb
  go_wp2_with fail
  go_ret
  exact ⟨rfl, bc (bc (ba (ba (Below.refl _ _) _) _) (unhide HB1)) (unhide HB2)⟩

set_option maxRecDepth 100000 in
set_option maxHeartbeats 2000000 in
theorem along_none (a1 a2 b1 b2 c1 c2 d1 d2 l1 l2 h1 h2 m1 m2 n1 n2 x1 x2 f1 f2 t1 t2 y1 y2 : Int) (w : World)
    (H1 : Hid (∀ W, Calls Try.prog 88 #[.agg #[.int .i64 a1, .int .i64 a2], .agg #[.int .i64 b1, .int .i64 b2], .agg #[.int .i64 c1, .int .i64 c2]] W fun e w' => e = .returned (.int .i64 0) ∧ Below W.heap.size W w'))
    (H2 : Hid (∀ W, Calls Try.prog 88 #[.agg #[.int .i64 c1, .int .i64 c2], .agg #[.int .i64 d1, .int .i64 d2], .agg #[.int .i64 a1, .int .i64 a2]] W fun e w' => e = .returned (.int .i64 0) ∧ Below W.heap.size W w'))
    (H3 : Hid (∀ W, Calls Try.prog 89 #[.agg #[.int .i64 a1, .int .i64 a2], .agg #[.int .i64 b1, .int .i64 b2], .func (.func 90) #[] #[]] W fun e w' => e = .returned (.tuple #[.agg #[.int .i64 l1, .int .i64 l2], .agg #[.int .i64 h1, .int .i64 h2]]) ∧ Below W.heap.size W w'))
    (H4 : Hid (∀ W, Calls Try.prog 89 #[.agg #[.int .i64 c1, .int .i64 c2], .agg #[.int .i64 d1, .int .i64 d2], .func (.func 90) #[] #[]] W fun e w' => e = .returned (.tuple #[.agg #[.int .i64 m1, .int .i64 m2], .agg #[.int .i64 n1, .int .i64 n2]]) ∧ Below W.heap.size W w'))
    (H5 : Hid (∀ W, Calls Try.prog 89 #[.agg #[.int .i64 l1, .int .i64 l2], .agg #[.int .i64 m1, .int .i64 m2], .func (.func 90) #[] #[]] W fun e w' => e = .returned (.tuple #[.agg #[.int .i64 x1, .int .i64 x2], .agg #[.int .i64 f1, .int .i64 f2]]) ∧ Below W.heap.size W w'))
    (H6 : Hid (∀ W, Calls Try.prog 89 #[.agg #[.int .i64 h1, .int .i64 h2], .agg #[.int .i64 n1, .int .i64 n2], .func (.func 90) #[] #[]] W fun e w' => e = .returned (.tuple #[.agg #[.int .i64 t1, .int .i64 t2], .agg #[.int .i64 y1, .int .i64 y2]]) ∧ Below W.heap.size W w'))
    (H7 : Hid (∀ W, Calls Try.prog 90 #[.agg #[.int .i64 f1, .int .i64 f2], .agg #[.int .i64 t1, .int .i64 t2]] W fun e w' => e = .returned (.int .i64 1) ∧ Below W.heap.size W w'))
    :
    Calls Try.prog 74 #[.agg #[.int .i64 a1, .int .i64 a2, .int .i64 b1, .int .i64 b2], .agg #[.int .i64 c1, .int .i64 c2, .int .i64 d1, .int .i64 d2]] w fun e w' => (e = .returned (.slice none 0 0)) ∧ Below w.heap.size w w' := by
  go_enter Try.func74, Try.ntmps74
  go_wp2_with fail
  refine (unhide H1 _).mono ?_
  rintro e W1 ⟨rfl, hb⟩
  have k1_0 := keep1 hb (b := w.heap.size) (o := 0) (v := .int .i64 a1) (by simp (maxDischargeDepth := 12) [go_sem, le1, lt1, *])
  have k1_1 := keep1 hb (b := w.heap.size) (o := 1) (v := .int .i64 a2) (by simp (maxDischargeDepth := 12) [go_sem, le1, lt1, *])
  have k1_2 := keep1 hb (b := w.heap.size) (o := 2) (v := .int .i64 b1) (by simp (maxDischargeDepth := 12) [go_sem, le1, lt1, *])
  have k1_3 := keep1 hb (b := w.heap.size) (o := 3) (v := .int .i64 b2) (by simp (maxDischargeDepth := 12) [go_sem, le1, lt1, *])
  have k1_4 := keep1 hb (b := w.heap.size + 1) (o := 0) (v := .int .i64 c1) (by simp (maxDischargeDepth := 12) [go_sem, le1, lt1, *])
  have k1_5 := keep1 hb (b := w.heap.size + 1) (o := 1) (v := .int .i64 c2) (by simp (maxDischargeDepth := 12) [go_sem, le1, lt1, *])
  have k1_6 := keep1 hb (b := w.heap.size + 1) (o := 2) (v := .int .i64 d1) (by simp (maxDischargeDepth := 12) [go_sem, le1, lt1, *])
  have k1_7 := keep1 hb (b := w.heap.size + 1) (o := 3) (v := .int .i64 d2) (by simp (maxDischargeDepth := 12) [go_sem, le1, lt1, *])
  have HB1 := hide hb
  clear hb
  have lak1_0 := cell_lt k1_0
  have lbk1_0 := Nat.le_of_lt lak1_0
  have lck1_0 := lt1 (k := 1) lak1_0
  have ldk1_0 := lt1 (k := 1) lck1_0
  have lek1_0 := lt1 (k := 1) ldk1_0
  have lak1_4 := cell_lt k1_4
  have lbk1_4 := Nat.le_of_lt lak1_4
  have lck1_4 := lt1 (k := 1) lak1_4
  have ldk1_4 := lt1 (k := 1) lck1_4
  have lek1_4 := lt1 (k := 1) ldk1_4
  go_wp2_with fail
  refine (unhide H2 _).mono ?_
  rintro e W2 ⟨rfl, hb⟩
  have k2_0 := keep1 hb (b := w.heap.size) (o := 0) (v := .int .i64 a1) (by simp (maxDischargeDepth := 12) [go_sem, le1, lt1, *])
  have k2_1 := keep1 hb (b := w.heap.size) (o := 1) (v := .int .i64 a2) (by simp (maxDischargeDepth := 12) [go_sem, le1, lt1, *])
  have k2_2 := keep1 hb (b := w.heap.size) (o := 2) (v := .int .i64 b1) (by simp (maxDischargeDepth := 12) [go_sem, le1, lt1, *])
  have k2_3 := keep1 hb (b := w.heap.size) (o := 3) (v := .int .i64 b2) (by simp (maxDischargeDepth := 12) [go_sem, le1, lt1, *])
  have k2_4 := keep1 hb (b := w.heap.size + 1) (o := 0) (v := .int .i64 c1) (by simp (maxDischargeDepth := 12) [go_sem, le1, lt1, *])
  have k2_5 := keep1 hb (b := w.heap.size + 1) (o := 1) (v := .int .i64 c2) (by simp (maxDischargeDepth := 12) [go_sem, le1, lt1, *])
  have k2_6 := keep1 hb (b := w.heap.size + 1) (o := 2) (v := .int .i64 d1) (by simp (maxDischargeDepth := 12) [go_sem, le1, lt1, *])
  have k2_7 := keep1 hb (b := w.heap.size + 1) (o := 3) (v := .int .i64 d2) (by simp (maxDischargeDepth := 12) [go_sem, le1, lt1, *])
  have HB2 := hide hb
  clear hb
  clear k1_0 k1_1 k1_2 k1_3 k1_4 k1_5 k1_6 k1_7 lak1_0 lbk1_0 lck1_0 ldk1_0 lek1_0 lak1_4 lbk1_4 lck1_4 ldk1_4 lek1_4
  have lak2_0 := cell_lt k2_0
  have lbk2_0 := Nat.le_of_lt lak2_0
  have lck2_0 := lt1 (k := 1) lak2_0
  have ldk2_0 := lt1 (k := 1) lck2_0
  have lek2_0 := lt1 (k := 1) ldk2_0
  have lak2_4 := cell_lt k2_4
  have lbk2_4 := Nat.le_of_lt lak2_4
  have lck2_4 := lt1 (k := 1) lak2_4
  have ldk2_4 := lt1 (k := 1) lck2_4
  have lek2_4 := lt1 (k := 1) ldk2_4
  go_wp2_with fail
  refine (unhide H3 _).mono ?_
  rintro e W3 ⟨rfl, hb⟩
  have k3_0 := keep1 hb (b := w.heap.size + 1) (o := 0) (v := .int .i64 c1) (by simp (maxDischargeDepth := 12) [go_sem, le1, lt1, *])
  have k3_1 := keep1 hb (b := w.heap.size + 1) (o := 1) (v := .int .i64 c2) (by simp (maxDischargeDepth := 12) [go_sem, le1, lt1, *])
  have k3_2 := keep1 hb (b := w.heap.size + 1) (o := 2) (v := .int .i64 d1) (by simp (maxDischargeDepth := 12) [go_sem, le1, lt1, *])
  have k3_3 := keep1 hb (b := w.heap.size + 1) (o := 3) (v := .int .i64 d2) (by simp (maxDischargeDepth := 12) [go_sem, le1, lt1, *])
  have HB3 := hide hb
  clear hb
  clear k2_0 k2_1 k2_2 k2_3 k2_4 k2_5 k2_6 k2_7 lak2_0 lbk2_0 lck2_0 ldk2_0 lek2_0 lak2_4 lbk2_4 lck2_4 ldk2_4 lek2_4
  have lak3_0 := cell_lt k3_0
  have lbk3_0 := Nat.le_of_lt lak3_0
  have lck3_0 := lt1 (k := 1) lak3_0
  have ldk3_0 := lt1 (k := 1) lck3_0
  have lek3_0 := lt1 (k := 1) ldk3_0
  go_wp2_with fail
  refine (unhide H4 _).mono ?_
  rintro e W4 ⟨rfl, hb⟩
  have k4_0 := keep1 hb (b := W3.heap.size) (o := 0) (v := .int .i64 l1) (by simp (maxDischargeDepth := 12) [go_sem, le1, lt1, *])
  have k4_1 := keep1 hb (b := W3.heap.size) (o := 1) (v := .int .i64 l2) (by simp (maxDischargeDepth := 12) [go_sem, le1, lt1, *])
  have k4_2 := keep1 hb (b := W3.heap.size + 1) (o := 0) (v := .int .i64 h1) (by simp (maxDischargeDepth := 12) [go_sem, le1, lt1, *])
  have k4_3 := keep1 hb (b := W3.heap.size + 1) (o := 1) (v := .int .i64 h2) (by simp (maxDischargeDepth := 12) [go_sem, le1, lt1, *])
  have HB4 := hide hb
  clear hb
  clear k3_0 k3_1 k3_2 k3_3 lak3_0 lbk3_0 lck3_0 ldk3_0 lek3_0
  have lak4_0 := cell_lt k4_0
  have lbk4_0 := Nat.le_of_lt lak4_0
  have lck4_0 := lt1 (k := 1) lak4_0
  have ldk4_0 := lt1 (k := 1) lck4_0
  have lek4_0 := lt1 (k := 1) ldk4_0
  have lak4_2 := cell_lt k4_2
  have lbk4_2 := Nat.le_of_lt lak4_2
  have lck4_2 := lt1 (k := 1) lak4_2
  have ldk4_2 := lt1 (k := 1) lck4_2
  have lek4_2 := lt1 (k := 1) ldk4_2
  go_wp2_with fail
  refine (unhide H5 _).mono ?_
  rintro e W5 ⟨rfl, hb⟩
  have k5_0 := keep1 hb (b := W3.heap.size + 1) (o := 0) (v := .int .i64 h1) (by simp (maxDischargeDepth := 12) [go_sem, le1, lt1, *])
  have k5_1 := keep1 hb (b := W3.heap.size + 1) (o := 1) (v := .int .i64 h2) (by simp (maxDischargeDepth := 12) [go_sem, le1, lt1, *])
  have k5_2 := keep1 hb (b := W4.heap.size + 1) (o := 0) (v := .int .i64 n1) (by simp (maxDischargeDepth := 12) [go_sem, le1, lt1, *])
  have k5_3 := keep1 hb (b := W4.heap.size + 1) (o := 1) (v := .int .i64 n2) (by simp (maxDischargeDepth := 12) [go_sem, le1, lt1, *])
  have HB5 := hide hb
  clear hb
  clear k4_0 k4_1 k4_2 k4_3 lak4_0 lbk4_0 lck4_0 ldk4_0 lek4_0 lak4_2 lbk4_2 lck4_2 ldk4_2 lek4_2
  have lak5_0 := cell_lt k5_0
  have lbk5_0 := Nat.le_of_lt lak5_0
  have lck5_0 := lt1 (k := 1) lak5_0
  have ldk5_0 := lt1 (k := 1) lck5_0
  have lek5_0 := lt1 (k := 1) ldk5_0
  have lak5_2 := cell_lt k5_2
  have lbk5_2 := Nat.le_of_lt lak5_2
  have lck5_2 := lt1 (k := 1) lak5_2
  have ldk5_2 := lt1 (k := 1) lck5_2
  have lek5_2 := lt1 (k := 1) ldk5_2
  go_wp2_with fail
  refine (unhide H6 _).mono ?_
  rintro e W6 ⟨rfl, hb⟩
  have k6_0 := keep1 hb (b := W5.heap.size + 1) (o := 0) (v := .int .i64 f1) (by simp (maxDischargeDepth := 12) [go_sem, le1, lt1, *])
  have k6_1 := keep1 hb (b := W5.heap.size + 1) (o := 1) (v := .int .i64 f2) (by simp (maxDischargeDepth := 12) [go_sem, le1, lt1, *])
  have HB6 := hide hb
  clear hb
  clear k5_0 k5_1 k5_2 k5_3 lak5_0 lbk5_0 lck5_0 ldk5_0 lek5_0 lak5_2 lbk5_2 lck5_2 ldk5_2 lek5_2
  have lak6_0 := cell_lt k6_0
  have lbk6_0 := Nat.le_of_lt lak6_0
  have lck6_0 := lt1 (k := 1) lak6_0
  have ldk6_0 := lt1 (k := 1) lck6_0
  have lek6_0 := lt1 (k := 1) ldk6_0
  go_wp2_with fail
  refine (unhide H7 _).mono ?_
  rintro e W7 ⟨rfl, hb⟩
  have k7_0 := keep1 hb (b := W5.heap.size + 1) (o := 0) (v := .int .i64 f1) (by simp (maxDischargeDepth := 12) [go_sem, le1, lt1, *])
  have k7_1 := keep1 hb (b := W5.heap.size + 1) (o := 1) (v := .int .i64 f2) (by simp (maxDischargeDepth := 12) [go_sem, le1, lt1, *])
  have k7_2 := keep1 hb (b := W6.heap.size) (o := 0) (v := .int .i64 t1) (by simp (maxDischargeDepth := 12) [go_sem, le1, lt1, *])
  have k7_3 := keep1 hb (b := W6.heap.size) (o := 1) (v := .int .i64 t2) (by simp (maxDischargeDepth := 12) [go_sem, le1, lt1, *])
  have HB7 := hide hb
  clear hb
  clear k6_0 k6_1 lak6_0 lbk6_0 lck6_0 ldk6_0 lek6_0
  have lak7_0 := cell_lt k7_0
  have lbk7_0 := Nat.le_of_lt lak7_0
  have lck7_0 := lt1 (k := 1) lak7_0
  have ldk7_0 := lt1 (k := 1) lck7_0
  have lek7_0 := lt1 (k := 1) ldk7_0
  have lak7_2 := cell_lt k7_2
  have lbk7_2 := Nat.le_of_lt lak7_2
  have lck7_2 := lt1 (k := 1) lak7_2
  have ldk7_2 := lt1 (k := 1) lck7_2
  have lek7_2 := lt1 (k := 1) ldk7_2
  have e7 : Below w.heap.size w W7 := by
    refine bc ?_ (unhide HB7)
    iterate 2 refine ba ?_ _
    refine bc ?_ (unhide HB6)
    iterate 2 refine ba ?_ _
    refine bc ?_ (unhide HB5)
    iterate 2 refine ba ?_ _
    refine bc ?_ (unhide HB4)
    iterate 2 refine ba ?_ _
    refine bc ?_ (unhide HB3)
    refine bc ?_ (unhide HB2)
    refine bc ?_ (unhide HB1)
    exact ba (ba (Below.refl _ _) _) _
  have E7 := hide e7
  clear e7
  go_wp2_with fail
  go_ret
  exact ⟨rfl, unhide E7⟩

set_option maxRecDepth 100000 in
set_option maxHeartbeats 2000000 in
theorem along_one (a1 a2 b1 b2 c1 c2 d1 d2 l1 l2 h1 h2 m1 m2 n1 n2 x1 x2 f1 f2 t1 t2 y1 y2 : Int) (w : World)
    (H1 : Hid (∀ W, Calls Try.prog 88 #[.agg #[.int .i64 a1, .int .i64 a2], .agg #[.int .i64 b1, .int .i64 b2], .agg #[.int .i64 c1, .int .i64 c2]] W fun e w' => e = .returned (.int .i64 0) ∧ Below W.heap.size W w'))
    (H2 : Hid (∀ W, Calls Try.prog 88 #[.agg #[.int .i64 c1, .int .i64 c2], .agg #[.int .i64 d1, .int .i64 d2], .agg #[.int .i64 a1, .int .i64 a2]] W fun e w' => e = .returned (.int .i64 0) ∧ Below W.heap.size W w'))
    (H3 : Hid (∀ W, Calls Try.prog 89 #[.agg #[.int .i64 a1, .int .i64 a2], .agg #[.int .i64 b1, .int .i64 b2], .func (.func 90) #[] #[]] W fun e w' => e = .returned (.tuple #[.agg #[.int .i64 l1, .int .i64 l2], .agg #[.int .i64 h1, .int .i64 h2]]) ∧ Below W.heap.size W w'))
    (H4 : Hid (∀ W, Calls Try.prog 89 #[.agg #[.int .i64 c1, .int .i64 c2], .agg #[.int .i64 d1, .int .i64 d2], .func (.func 90) #[] #[]] W fun e w' => e = .returned (.tuple #[.agg #[.int .i64 m1, .int .i64 m2], .agg #[.int .i64 n1, .int .i64 n2]]) ∧ Below W.heap.size W w'))
    (H5 : Hid (∀ W, Calls Try.prog 89 #[.agg #[.int .i64 l1, .int .i64 l2], .agg #[.int .i64 m1, .int .i64 m2], .func (.func 90) #[] #[]] W fun e w' => e = .returned (.tuple #[.agg #[.int .i64 x1, .int .i64 x2], .agg #[.int .i64 f1, .int .i64 f2]]) ∧ Below W.heap.size W w'))
    (H6 : Hid (∀ W, Calls Try.prog 89 #[.agg #[.int .i64 h1, .int .i64 h2], .agg #[.int .i64 n1, .int .i64 n2], .func (.func 90) #[] #[]] W fun e w' => e = .returned (.tuple #[.agg #[.int .i64 t1, .int .i64 t2], .agg #[.int .i64 y1, .int .i64 y2]]) ∧ Below W.heap.size W w'))
    (H7 : Hid (∀ W, Calls Try.prog 90 #[.agg #[.int .i64 f1, .int .i64 f2], .agg #[.int .i64 t1, .int .i64 t2]] W fun e w' => e = .returned (.int .i64 0) ∧ Below W.heap.size W w'))
    (H8 : Hid (∀ x y W, (x = f1 ∧ y = f2 ∨ x = t1 ∧ y = t2) → Calls Try.prog 75 #[.int .i64 x, .int .i64 y, .int .i64 1] W fun e w' => e = .returned (.agg #[.int .i64 x, .int .i64 y, .int .i64 1]) ∧ Below W.heap.size W w'))
    :
    Calls Try.prog 74 #[.agg #[.int .i64 a1, .int .i64 a2, .int .i64 b1, .int .i64 b2], .agg #[.int .i64 c1, .int .i64 c2, .int .i64 d1, .int .i64 d2]] w fun e w' => (∃ k, e = .returned (.slice (some ⟨k, 0, none⟩) 1 1) ∧ w.heap.size ≤ k ∧ w'.heap[k]? = some (.cells #[.int .i64 f1, .int .i64 f2, .int .i64 1] 93 (0, 0))) ∧ Below w.heap.size w w' := by
  go_enter Try.func74, Try.ntmps74
  go_wp2_with fail
  refine (unhide H1 _).mono ?_
  rintro e W1 ⟨rfl, hb⟩
  have k1_0 := keep1 hb (b := w.heap.size) (o := 0) (v := .int .i64 a1) (by simp (maxDischargeDepth := 12) [go_sem, le1, lt1, *])
  have k1_1 := keep1 hb (b := w.heap.size) (o := 1) (v := .int .i64 a2) (by simp (maxDischargeDepth := 12) [go_sem, le1, lt1, *])
  have k1_2 := keep1 hb (b := w.heap.size) (o := 2) (v := .int .i64 b1) (by simp (maxDischargeDepth := 12) [go_sem, le1, lt1, *])
  have k1_3 := keep1 hb (b := w.heap.size) (o := 3) (v := .int .i64 b2) (by simp (maxDischargeDepth := 12) [go_sem, le1, lt1, *])
  have k1_4 := keep1 hb (b := w.heap.size + 1) (o := 0) (v := .int .i64 c1) (by simp (maxDischargeDepth := 12) [go_sem, le1, lt1, *])
  have k1_5 := keep1 hb (b := w.heap.size + 1) (o := 1) (v := .int .i64 c2) (by simp (maxDischargeDepth := 12) [go_sem, le1, lt1, *])
  have k1_6 := keep1 hb (b := w.heap.size + 1) (o := 2) (v := .int .i64 d1) (by simp (maxDischargeDepth := 12) [go_sem, le1, lt1, *])
  have k1_7 := keep1 hb (b := w.heap.size + 1) (o := 3) (v := .int .i64 d2) (by simp (maxDischargeDepth := 12) [go_sem, le1, lt1, *])
  have HB1 := hide hb
  clear hb
  have lak1_0 := cell_lt k1_0
  have lbk1_0 := Nat.le_of_lt lak1_0
  have lck1_0 := lt1 (k := 1) lak1_0
  have ldk1_0 := lt1 (k := 1) lck1_0
  have lek1_0 := lt1 (k := 1) ldk1_0
  have lak1_4 := cell_lt k1_4
  have lbk1_4 := Nat.le_of_lt lak1_4
  have lck1_4 := lt1 (k := 1) lak1_4
  have ldk1_4 := lt1 (k := 1) lck1_4
  have lek1_4 := lt1 (k := 1) ldk1_4
  go_wp2_with fail
  refine (unhide H2 _).mono ?_
  rintro e W2 ⟨rfl, hb⟩
  have k2_0 := keep1 hb (b := w.heap.size) (o := 0) (v := .int .i64 a1) (by simp (maxDischargeDepth := 12) [go_sem, le1, lt1, *])
  have k2_1 := keep1 hb (b := w.heap.size) (o := 1) (v := .int .i64 a2) (by simp (maxDischargeDepth := 12) [go_sem, le1, lt1, *])
  have k2_2 := keep1 hb (b := w.heap.size) (o := 2) (v := .int .i64 b1) (by simp (maxDischargeDepth := 12) [go_sem, le1, lt1, *])
  have k2_3 := keep1 hb (b := w.heap.size) (o := 3) (v := .int .i64 b2) (by simp (maxDischargeDepth := 12) [go_sem, le1, lt1, *])
  have k2_4 := keep1 hb (b := w.heap.size + 1) (o := 0) (v := .int .i64 c1) (by simp (maxDischargeDepth := 12) [go_sem, le1, lt1, *])
  have k2_5 := keep1 hb (b := w.heap.size + 1) (o := 1) (v := .int .i64 c2) (by simp (maxDischargeDepth := 12) [go_sem, le1, lt1, *])
  have k2_6 := keep1 hb (b := w.heap.size + 1) (o := 2) (v := .int .i64 d1) (by simp (maxDischargeDepth := 12) [go_sem, le1, lt1, *])
  have k2_7 := keep1 hb (b := w.heap.size + 1) (o := 3) (v := .int .i64 d2) (by simp (maxDischargeDepth := 12) [go_sem, le1, lt1, *])
  have HB2 := hide hb
  clear hb
  clear k1_0 k1_1 k1_2 k1_3 k1_4 k1_5 k1_6 k1_7 lak1_0 lbk1_0 lck1_0 ldk1_0 lek1_0 lak1_4 lbk1_4 lck1_4 ldk1_4 lek1_4
  have lak2_0 := cell_lt k2_0
  have lbk2_0 := Nat.le_of_lt lak2_0
  have lck2_0 := lt1 (k := 1) lak2_0
  have ldk2_0 := lt1 (k := 1) lck2_0
  have lek2_0 := lt1 (k := 1) ldk2_0
  have lak2_4 := cell_lt k2_4
  have lbk2_4 := Nat.le_of_lt lak2_4
  have lck2_4 := lt1 (k := 1) lak2_4
  have ldk2_4 := lt1 (k := 1) lck2_4
  have lek2_4 := lt1 (k := 1) ldk2_4
  go_wp2_with fail
  refine (unhide H3 _).mono ?_
  rintro e W3 ⟨rfl, hb⟩
  have k3_0 := keep1 hb (b := w.heap.size + 1) (o := 0) (v := .int .i64 c1) (by simp (maxDischargeDepth := 12) [go_sem, le1, lt1, *])
  have k3_1 := keep1 hb (b := w.heap.size + 1) (o := 1) (v := .int .i64 c2) (by simp (maxDischargeDepth := 12) [go_sem, le1, lt1, *])
  have k3_2 := keep1 hb (b := w.heap.size + 1) (o := 2) (v := .int .i64 d1) (by simp (maxDischargeDepth := 12) [go_sem, le1, lt1, *])
  have k3_3 := keep1 hb (b := w.heap.size + 1) (o := 3) (v := .int .i64 d2) (by simp (maxDischargeDepth := 12) [go_sem, le1, lt1, *])
  have HB3 := hide hb
  clear hb
  clear k2_0 k2_1 k2_2 k2_3 k2_4 k2_5 k2_6 k2_7 lak2_0 lbk2_0 lck2_0 ldk2_0 lek2_0 lak2_4 lbk2_4 lck2_4 ldk2_4 lek2_4
  have lak3_0 := cell_lt k3_0
  have lbk3_0 := Nat.le_of_lt lak3_0
  have lck3_0 := lt1 (k := 1) lak3_0
  have ldk3_0 := lt1 (k := 1) lck3_0
  have lek3_0 := lt1 (k := 1) ldk3_0
  go_wp2_with fail
  refine (unhide H4 _).mono ?_
  rintro e W4 ⟨rfl, hb⟩
  have k4_0 := keep1 hb (b := W3.heap.size) (o := 0) (v := .int .i64 l1) (by simp (maxDischargeDepth := 12) [go_sem, le1, lt1, *])
  have k4_1 := keep1 hb (b := W3.heap.size) (o := 1) (v := .int .i64 l2) (by simp (maxDischargeDepth := 12) [go_sem, le1, lt1, *])
  have k4_2 := keep1 hb (b := W3.heap.size + 1) (o := 0) (v := .int .i64 h1) (by simp (maxDischargeDepth := 12) [go_sem, le1, lt1, *])
  have k4_3 := keep1 hb (b := W3.heap.size + 1) (o := 1) (v := .int .i64 h2) (by simp (maxDischargeDepth := 12) [go_sem, le1, lt1, *])
  have HB4 := hide hb
  clear hb
  clear k3_0 k3_1 k3_2 k3_3 lak3_0 lbk3_0 lck3_0 ldk3_0 lek3_0
  have lak4_0 := cell_lt k4_0
  have lbk4_0 := Nat.le_of_lt lak4_0
  have lck4_0 := lt1 (k := 1) lak4_0
  have ldk4_0 := lt1 (k := 1) lck4_0
  have lek4_0 := lt1 (k := 1) ldk4_0
  have lak4_2 := cell_lt k4_2
  have lbk4_2 := Nat.le_of_lt lak4_2
  have lck4_2 := lt1 (k := 1) lak4_2
  have ldk4_2 := lt1 (k := 1) lck4_2
  have lek4_2 := lt1 (k := 1) ldk4_2
  go_wp2_with fail
  refine (unhide H5 _).mono ?_
  rintro e W5 ⟨rfl, hb⟩
  have k5_0 := keep1 hb (b := W3.heap.size + 1) (o := 0) (v := .int .i64 h1) (by simp (maxDischargeDepth := 12) [go_sem, le1, lt1, *])
  have k5_1 := keep1 hb (b := W3.heap.size + 1) (o := 1) (v := .int .i64 h2) (by simp (maxDischargeDepth := 12) [go_sem, le1, lt1, *])
  have k5_2 := keep1 hb (b := W4.heap.size + 1) (o := 0) (v := .int .i64 n1) (by simp (maxDischargeDepth := 12) [go_sem, le1, lt1, *])
  have k5_3 := keep1 hb (b := W4.heap.size + 1) (o := 1) (v := .int .i64 n2) (by simp (maxDischargeDepth := 12) [go_sem, le1, lt1, *])
  have HB5 := hide hb
  clear hb
  clear k4_0 k4_1 k4_2 k4_3 lak4_0 lbk4_0 lck4_0 ldk4_0 lek4_0 lak4_2 lbk4_2 lck4_2 ldk4_2 lek4_2
  have lak5_0 := cell_lt k5_0
  have lbk5_0 := Nat.le_of_lt lak5_0
  have lck5_0 := lt1 (k := 1) lak5_0
  have ldk5_0 := lt1 (k := 1) lck5_0
  have lek5_0 := lt1 (k := 1) ldk5_0
  have lak5_2 := cell_lt k5_2
  have lbk5_2 := Nat.le_of_lt lak5_2
  have lck5_2 := lt1 (k := 1) lak5_2
  have ldk5_2 := lt1 (k := 1) lck5_2
  have lek5_2 := lt1 (k := 1) ldk5_2
  go_wp2_with fail
  refine (unhide H6 _).mono ?_
  rintro e W6 ⟨rfl, hb⟩
  have k6_0 := keep1 hb (b := W5.heap.size + 1) (o := 0) (v := .int .i64 f1) (by simp (maxDischargeDepth := 12) [go_sem, le1, lt1, *])
  have k6_1 := keep1 hb (b := W5.heap.size + 1) (o := 1) (v := .int .i64 f2) (by simp (maxDischargeDepth := 12) [go_sem, le1, lt1, *])
  have HB6 := hide hb
  clear hb
  clear k5_0 k5_1 k5_2 k5_3 lak5_0 lbk5_0 lck5_0 ldk5_0 lek5_0 lak5_2 lbk5_2 lck5_2 ldk5_2 lek5_2
  have lak6_0 := cell_lt k6_0
  have lbk6_0 := Nat.le_of_lt lak6_0
  have lck6_0 := lt1 (k := 1) lak6_0
  have ldk6_0 := lt1 (k := 1) lck6_0
  have lek6_0 := lt1 (k := 1) ldk6_0
  go_wp2_with fail
  refine (unhide H7 _).mono ?_
  rintro e W7 ⟨rfl, hb⟩
  have k7_0 := keep1 hb (b := W5.heap.size + 1) (o := 0) (v := .int .i64 f1) (by simp (maxDischargeDepth := 12) [go_sem, le1, lt1, *])
  have k7_1 := keep1 hb (b := W5.heap.size + 1) (o := 1) (v := .int .i64 f2) (by simp (maxDischargeDepth := 12) [go_sem, le1, lt1, *])
  have k7_2 := keep1 hb (b := W6.heap.size) (o := 0) (v := .int .i64 t1) (by simp (maxDischargeDepth := 12) [go_sem, le1, lt1, *])
  have k7_3 := keep1 hb (b := W6.heap.size) (o := 1) (v := .int .i64 t2) (by simp (maxDischargeDepth := 12) [go_sem, le1, lt1, *])
  have HB7 := hide hb
  clear hb
  clear k6_0 k6_1 lak6_0 lbk6_0 lck6_0 ldk6_0 lek6_0
  have lak7_0 := cell_lt k7_0
  have lbk7_0 := Nat.le_of_lt lak7_0
  have lck7_0 := lt1 (k := 1) lak7_0
  have ldk7_0 := lt1 (k := 1) lck7_0
  have lek7_0 := lt1 (k := 1) ldk7_0
  have lak7_2 := cell_lt k7_2
  have lbk7_2 := Nat.le_of_lt lak7_2
  have lck7_2 := lt1 (k := 1) lak7_2
  have ldk7_2 := lt1 (k := 1) lck7_2
  have lek7_2 := lt1 (k := 1) ldk7_2
  have e7 : Below w.heap.size w W7 := by
    refine bc ?_ (unhide HB7)
    iterate 2 refine ba ?_ _
    refine bc ?_ (unhide HB6)
    iterate 2 refine ba ?_ _
    refine bc ?_ (unhide HB5)
    iterate 2 refine ba ?_ _
    refine bc ?_ (unhide HB4)
    iterate 2 refine ba ?_ _
    refine bc ?_ (unhide HB3)
    refine bc ?_ (unhide HB2)
    refine bc ?_ (unhide HB1)
    exact ba (ba (Below.refl _ _) _) _
  have E7 := hide e7
  clear e7
  go_wp2_with fail
  refine (unhide H8 _ _ _ (.inl ⟨rfl, rfl⟩)).mono ?_
  rintro e W8 ⟨rfl, hb⟩
  have HB8 := hide hb
  clear hb
  go_wp2_with fail
  go_ret
  exact ⟨⟨W8.heap.size, rfl, (bc (unhide E7) (unhide HB8)).size, blk_new _ _⟩, ba (bc (unhide E7) (unhide HB8)) _⟩

set_option maxRecDepth 100000 in
set_option maxHeartbeats 2000000 in
theorem along_two (a1 a2 b1 b2 c1 c2 d1 d2 l1 l2 h1 h2 m1 m2 n1 n2 x1 x2 f1 f2 t1 t2 y1 y2 : Int) (w : World)
    (H1 : Hid (∀ W, Calls Try.prog 88 #[.agg #[.int .i64 a1, .int .i64 a2], .agg #[.int .i64 b1, .int .i64 b2], .agg #[.int .i64 c1, .int .i64 c2]] W fun e w' => e = .returned (.int .i64 0) ∧ Below W.heap.size W w'))
    (H2 : Hid (∀ W, Calls Try.prog 88 #[.agg #[.int .i64 c1, .int .i64 c2], .agg #[.int .i64 d1, .int .i64 d2], .agg #[.int .i64 a1, .int .i64 a2]] W fun e w' => e = .returned (.int .i64 0) ∧ Below W.heap.size W w'))
    (H3 : Hid (∀ W, Calls Try.prog 89 #[.agg #[.int .i64 a1, .int .i64 a2], .agg #[.int .i64 b1, .int .i64 b2], .func (.func 90) #[] #[]] W fun e w' => e = .returned (.tuple #[.agg #[.int .i64 l1, .int .i64 l2], .agg #[.int .i64 h1, .int .i64 h2]]) ∧ Below W.heap.size W w'))
    (H4 : Hid (∀ W, Calls Try.prog 89 #[.agg #[.int .i64 c1, .int .i64 c2], .agg #[.int .i64 d1, .int .i64 d2], .func (.func 90) #[] #[]] W fun e w' => e = .returned (.tuple #[.agg #[.int .i64 m1, .int .i64 m2], .agg #[.int .i64 n1, .int .i64 n2]]) ∧ Below W.heap.size W w'))
    (H5 : Hid (∀ W, Calls Try.prog 89 #[.agg #[.int .i64 l1, .int .i64 l2], .agg #[.int .i64 m1, .int .i64 m2], .func (.func 90) #[] #[]] W fun e w' => e = .returned (.tuple #[.agg #[.int .i64 x1, .int .i64 x2], .agg #[.int .i64 f1, .int .i64 f2]]) ∧ Below W.heap.size W w'))
    (H6 : Hid (∀ W, Calls Try.prog 89 #[.agg #[.int .i64 h1, .int .i64 h2], .agg #[.int .i64 n1, .int .i64 n2], .func (.func 90) #[] #[]] W fun e w' => e = .returned (.tuple #[.agg #[.int .i64 t1, .int .i64 t2], .agg #[.int .i64 y1, .int .i64 y2]]) ∧ Below W.heap.size W w'))
    (H7 : Hid (∀ W, Calls Try.prog 90 #[.agg #[.int .i64 f1, .int .i64 f2], .agg #[.int .i64 t1, .int .i64 t2]] W fun e w' => e = .returned (.int .i64 (-1)) ∧ Below W.heap.size W w'))
    (H8 : Hid (∀ x y W, (x = f1 ∧ y = f2 ∨ x = t1 ∧ y = t2) → Calls Try.prog 75 #[.int .i64 x, .int .i64 y, .int .i64 1] W fun e w' => e = .returned (.agg #[.int .i64 x, .int .i64 y, .int .i64 1]) ∧ Below W.heap.size W w'))
    :
    Calls Try.prog 74 #[.agg #[.int .i64 a1, .int .i64 a2, .int .i64 b1, .int .i64 b2], .agg #[.int .i64 c1, .int .i64 c2, .int .i64 d1, .int .i64 d2]] w fun e w' => (∃ k, e = .returned (.slice (some ⟨k, 0, none⟩) 2 2) ∧ w.heap.size ≤ k ∧ w'.heap[k]? = some (.cells #[.int .i64 f1, .int .i64 f2, .int .i64 1, .int .i64 t1, .int .i64 t2, .int .i64 1] 93 (0, 0))) ∧ Below w.heap.size w w' := by
  go_enter Try.func74, Try.ntmps74
  go_wp2_with fail
  refine (unhide H1 _).mono ?_
  rintro e W1 ⟨rfl, hb⟩
  have k1_0 := keep1 hb (b := w.heap.size) (o := 0) (v := .int .i64 a1) (by simp (maxDischargeDepth := 12) [go_sem, le1, lt1, *])
  have k1_1 := keep1 hb (b := w.heap.size) (o := 1) (v := .int .i64 a2) (by simp (maxDischargeDepth := 12) [go_sem, le1, lt1, *])
  have k1_2 := keep1 hb (b := w.heap.size) (o := 2) (v := .int .i64 b1) (by simp (maxDischargeDepth := 12) [go_sem, le1, lt1, *])
  have k1_3 := keep1 hb (b := w.heap.size) (o := 3) (v := .int .i64 b2) (by simp (maxDischargeDepth := 12) [go_sem, le1, lt1, *])
  have k1_4 := keep1 hb (b := w.heap.size + 1) (o := 0) (v := .int .i64 c1) (by simp (maxDischargeDepth := 12) [go_sem, le1, lt1, *])
  have k1_5 := keep1 hb (b := w.heap.size + 1) (o := 1) (v := .int .i64 c2) (by simp (maxDischargeDepth := 12) [go_sem, le1, lt1, *])
  have k1_6 := keep1 hb (b := w.heap.size + 1) (o := 2) (v := .int .i64 d1) (by simp (maxDischargeDepth := 12) [go_sem, le1, lt1, *])
  have k1_7 := keep1 hb (b := w.heap.size + 1) (o := 3) (v := .int .i64 d2) (by simp (maxDischargeDepth := 12) [go_sem, le1, lt1, *])
  have HB1 := hide hb
  clear hb
  have lak1_0 := cell_lt k1_0
  have lbk1_0 := Nat.le_of_lt lak1_0
  have lck1_0 := lt1 (k := 1) lak1_0
  have ldk1_0 := lt1 (k := 1) lck1_0
  have lek1_0 := lt1 (k := 1) ldk1_0
  have lak1_4 := cell_lt k1_4
  have lbk1_4 := Nat.le_of_lt lak1_4
  have lck1_4 := lt1 (k := 1) lak1_4
  have ldk1_4 := lt1 (k := 1) lck1_4
  have lek1_4 := lt1 (k := 1) ldk1_4
  go_wp2_with fail
  refine (unhide H2 _).mono ?_
  rintro e W2 ⟨rfl, hb⟩
  have k2_0 := keep1 hb (b := w.heap.size) (o := 0) (v := .int .i64 a1) (by simp (maxDischargeDepth := 12) [go_sem, le1, lt1, *])
  have k2_1 := keep1 hb (b := w.heap.size) (o := 1) (v := .int .i64 a2) (by simp (maxDischargeDepth := 12) [go_sem, le1, lt1, *])
  have k2_2 := keep1 hb (b := w.heap.size) (o := 2) (v := .int .i64 b1) (by simp (maxDischargeDepth := 12) [go_sem, le1, lt1, *])
  have k2_3 := keep1 hb (b := w.heap.size) (o := 3) (v := .int .i64 b2) (by simp (maxDischargeDepth := 12) [go_sem, le1, lt1, *])
  have k2_4 := keep1 hb (b := w.heap.size + 1) (o := 0) (v := .int .i64 c1) (by simp (maxDischargeDepth := 12) [go_sem, le1, lt1, *])
  have k2_5 := keep1 hb (b := w.heap.size + 1) (o := 1) (v := .int .i64 c2) (by simp (maxDischargeDepth := 12) [go_sem, le1, lt1, *])
  have k2_6 := keep1 hb (b := w.heap.size + 1) (o := 2) (v := .int .i64 d1) (by simp (maxDischargeDepth := 12) [go_sem, le1, lt1, *])
  have k2_7 := keep1 hb (b := w.heap.size + 1) (o := 3) (v := .int .i64 d2) (by simp (maxDischargeDepth := 12) [go_sem, le1, lt1, *])
  have HB2 := hide hb
  clear hb
  clear k1_0 k1_1 k1_2 k1_3 k1_4 k1_5 k1_6 k1_7 lak1_0 lbk1_0 lck1_0 ldk1_0 lek1_0 lak1_4 lbk1_4 lck1_4 ldk1_4 lek1_4
  have lak2_0 := cell_lt k2_0
  have lbk2_0 := Nat.le_of_lt lak2_0
  have lck2_0 := lt1 (k := 1) lak2_0
  have ldk2_0 := lt1 (k := 1) lck2_0
  have lek2_0 := lt1 (k := 1) ldk2_0
  have lak2_4 := cell_lt k2_4
  have lbk2_4 := Nat.le_of_lt lak2_4
  have lck2_4 := lt1 (k := 1) lak2_4
  have ldk2_4 := lt1 (k := 1) lck2_4
  have lek2_4 := lt1 (k := 1) ldk2_4
  go_wp2_with fail
  refine (unhide H3 _).mono ?_
  rintro e W3 ⟨rfl, hb⟩
  have k3_0 := keep1 hb (b := w.heap.size + 1) (o := 0) (v := .int .i64 c1) (by simp (maxDischargeDepth := 12) [go_sem, le1, lt1, *])
  have k3_1 := keep1 hb (b := w.heap.size + 1) (o := 1) (v := .int .i64 c2) (by simp (maxDischargeDepth := 12) [go_sem, le1, lt1, *])
  have k3_2 := keep1 hb (b := w.heap.size + 1) (o := 2) (v := .int .i64 d1) (by simp (maxDischargeDepth := 12) [go_sem, le1, lt1, *])
  have k3_3 := keep1 hb (b := w.heap.size + 1) (o := 3) (v := .int .i64 d2) (by simp (maxDischargeDepth := 12) [go_sem, le1, lt1, *])
  have HB3 := hide hb
  clear hb
  clear k2_0 k2_1 k2_2 k2_3 k2_4 k2_5 k2_6 k2_7 lak2_0 lbk2_0 lck2_0 ldk2_0 lek2_0 lak2_4 lbk2_4 lck2_4 ldk2_4 lek2_4
  have lak3_0 := cell_lt k3_0
  have lbk3_0 := Nat.le_of_lt lak3_0
  have lck3_0 := lt1 (k := 1) lak3_0
  have ldk3_0 := lt1 (k := 1) lck3_0
  have lek3_0 := lt1 (k := 1) ldk3_0
  go_wp2_with fail
  refine (unhide H4 _).mono ?_
  rintro e W4 ⟨rfl, hb⟩
  have k4_0 := keep1 hb (b := W3.heap.size) (o := 0) (v := .int .i64 l1) (by simp (maxDischargeDepth := 12) [go_sem, le1, lt1, *])
  have k4_1 := keep1 hb (b := W3.heap.size) (o := 1) (v := .int .i64 l2) (by simp (maxDischargeDepth := 12) [go_sem, le1, lt1, *])
  have k4_2 := keep1 hb (b := W3.heap.size + 1) (o := 0) (v := .int .i64 h1) (by simp (maxDischargeDepth := 12) [go_sem, le1, lt1, *])
  have k4_3 := keep1 hb (b := W3.heap.size + 1) (o := 1) (v := .int .i64 h2) (by simp (maxDischargeDepth := 12) [go_sem, le1, lt1, *])
  have HB4 := hide hb
  clear hb
  clear k3_0 k3_1 k3_2 k3_3 lak3_0 lbk3_0 lck3_0 ldk3_0 lek3_0
  have lak4_0 := cell_lt k4_0
  have lbk4_0 := Nat.le_of_lt lak4_0
  have lck4_0 := lt1 (k := 1) lak4_0
  have ldk4_0 := lt1 (k := 1) lck4_0
  have lek4_0 := lt1 (k := 1) ldk4_0
  have lak4_2 := cell_lt k4_2
  have lbk4_2 := Nat.le_of_lt lak4_2
  have lck4_2 := lt1 (k := 1) lak4_2
  have ldk4_2 := lt1 (k := 1) lck4_2
  have lek4_2 := lt1 (k := 1) ldk4_2
  go_wp2_with fail
  refine (unhide H5 _).mono ?_
  rintro e W5 ⟨rfl, hb⟩
  have k5_0 := keep1 hb (b := W3.heap.size + 1) (o := 0) (v := .int .i64 h1) (by simp (maxDischargeDepth := 12) [go_sem, le1, lt1, *])
  have k5_1 := keep1 hb (b := W3.heap.size + 1) (o := 1) (v := .int .i64 h2) (by simp (maxDischargeDepth := 12) [go_sem, le1, lt1, *])
  have k5_2 := keep1 hb (b := W4.heap.size + 1) (o := 0) (v := .int .i64 n1) (by simp (maxDischargeDepth := 12) [go_sem, le1, lt1, *])
  have k5_3 := keep1 hb (b := W4.heap.size + 1) (o := 1) (v := .int .i64 n2) (by simp (maxDischargeDepth := 12) [go_sem, le1, lt1, *])
  have HB5 := hide hb
  clear hb
  clear k4_0 k4_1 k4_2 k4_3 lak4_0 lbk4_0 lck4_0 ldk4_0 lek4_0 lak4_2 lbk4_2 lck4_2 ldk4_2 lek4_2
  have lak5_0 := cell_lt k5_0
  have lbk5_0 := Nat.le_of_lt lak5_0
  have lck5_0 := lt1 (k := 1) lak5_0
  have ldk5_0 := lt1 (k := 1) lck5_0
  have lek5_0 := lt1 (k := 1) ldk5_0
  have lak5_2 := cell_lt k5_2
  have lbk5_2 := Nat.le_of_lt lak5_2
  have lck5_2 := lt1 (k := 1) lak5_2
  have ldk5_2 := lt1 (k := 1) lck5_2
  have lek5_2 := lt1 (k := 1) ldk5_2
  go_wp2_with fail
  refine (unhide H6 _).mono ?_
  rintro e W6 ⟨rfl, hb⟩
  have k6_0 := keep1 hb (b := W5.heap.size + 1) (o := 0) (v := .int .i64 f1) (by simp (maxDischargeDepth := 12) [go_sem, le1, lt1, *])
  have k6_1 := keep1 hb (b := W5.heap.size + 1) (o := 1) (v := .int .i64 f2) (by simp (maxDischargeDepth := 12) [go_sem, le1, lt1, *])
  have HB6 := hide hb
  clear hb
  clear k5_0 k5_1 k5_2 k5_3 lak5_0 lbk5_0 lck5_0 ldk5_0 lek5_0 lak5_2 lbk5_2 lck5_2 ldk5_2 lek5_2
  have lak6_0 := cell_lt k6_0
  have lbk6_0 := Nat.le_of_lt lak6_0
  have lck6_0 := lt1 (k := 1) lak6_0
  have ldk6_0 := lt1 (k := 1) lck6_0
  have lek6_0 := lt1 (k := 1) ldk6_0
  go_wp2_with fail
  refine (unhide H7 _).mono ?_
  rintro e W7 ⟨rfl, hb⟩
  have k7_0 := keep1 hb (b := W5.heap.size + 1) (o := 0) (v := .int .i64 f1) (by simp (maxDischargeDepth := 12) [go_sem, le1, lt1, *])
  have k7_1 := keep1 hb (b := W5.heap.size + 1) (o := 1) (v := .int .i64 f2) (by simp (maxDischargeDepth := 12) [go_sem, le1, lt1, *])
  have k7_2 := keep1 hb (b := W6.heap.size) (o := 0) (v := .int .i64 t1) (by simp (maxDischargeDepth := 12) [go_sem, le1, lt1, *])
  have k7_3 := keep1 hb (b := W6.heap.size) (o := 1) (v := .int .i64 t2) (by simp (maxDischargeDepth := 12) [go_sem, le1, lt1, *])
  have HB7 := hide hb
  clear hb
  clear k6_0 k6_1 lak6_0 lbk6_0 lck6_0 ldk6_0 lek6_0
  have lak7_0 := cell_lt k7_0
  have lbk7_0 := Nat.le_of_lt lak7_0
  have lck7_0 := lt1 (k := 1) lak7_0
  have ldk7_0 := lt1 (k := 1) lck7_0
  have lek7_0 := lt1 (k := 1) ldk7_0
  have lak7_2 := cell_lt k7_2
  have lbk7_2 := Nat.le_of_lt lak7_2
  have lck7_2 := lt1 (k := 1) lak7_2
  have ldk7_2 := lt1 (k := 1) lck7_2
  have lek7_2 := lt1 (k := 1) ldk7_2
  have e7 : Below w.heap.size w W7 := by
    refine bc ?_ (unhide HB7)
    iterate 2 refine ba ?_ _
    refine bc ?_ (unhide HB6)
    iterate 2 refine ba ?_ _
    refine bc ?_ (unhide HB5)
    iterate 2 refine ba ?_ _
    refine bc ?_ (unhide HB4)
    iterate 2 refine ba ?_ _
    refine bc ?_ (unhide HB3)
    refine bc ?_ (unhide HB2)
    refine bc ?_ (unhide HB1)
    exact ba (ba (Below.refl _ _) _) _
  have E7 := hide e7
  clear e7
  go_wp2_with fail
  go_region_held3 (fun wx => wx.cell? ⟨W5.heap.size + 1, 0, none⟩ = some (.int .i64 f1) ∧ wx.cell? ⟨W5.heap.size + 1, 1, none⟩ = some (.int .i64 f2) ∧ wx.cell? ⟨W6.heap.size, 0, none⟩ = some (.int .i64 t1) ∧ wx.cell? ⟨W6.heap.size, 1, none⟩ = some (.int .i64 t2))
    (simp (maxDischargeDepth := 12) [go_sem, le1, lt1, *])
    (first
    | (go_at_call 75; refine (unhide H8 _ _ _ ?_).mono ?_; (first | exact .inl ⟨rfl, rfl⟩ | exact .inr ⟨rfl, rfl⟩); rintro e w' ⟨rfl, hb⟩; have EX := hide (show Below w.heap.size w w' from bc (by repeat (first | exact unhide E7 | refine ba ?_ _ | refine Below.drew ?_)) hb); clear E7; have E7 := EX; clear EX; have q0 := keep1 hb (b := W5.heap.size + 1) (o := 0) (v := .int .i64 f1) (by simp (maxDischargeDepth := 12) [go_sem, le1, lt1, *]); have q1 := keep1 hb (b := W5.heap.size + 1) (o := 1) (v := .int .i64 f2) (by simp (maxDischargeDepth := 12) [go_sem, le1, lt1, *]); have q2 := keep1 hb (b := W6.heap.size) (o := 0) (v := .int .i64 t1) (by simp (maxDischargeDepth := 12) [go_sem, le1, lt1, *]); have q3 := keep1 hb (b := W6.heap.size) (o := 1) (v := .int .i64 t2) (by simp (maxDischargeDepth := 12) [go_sem, le1, lt1, *]); have r0 := cell_lt q0; have r2 := cell_lt q2; clear hb))
  all_goals
    go_wp2_with fail
    go_ret
    refine ⟨⟨_, rfl, ?_, blk_new _ _⟩, ?_⟩
    · refine Below.size (w := w) (B := w.heap.size) ?_
      repeat (first | exact unhide E7 | refine ba ?_ _ | refine Below.drew ?_)
    · repeat (first | exact unhide E7 | refine ba ?_ _ | refine Below.drew ?_)
end Go.Proofs.Ytimkinpbimangaa
