/-
  Sums, products and comparisons of fractions, by the model and by the program.
-/
import Derived.Test.YtimkinpbimangaaFrOk
namespace Go.Proofs.Ytimkinpbimangaa
open Go.ChangeShapes Go.WideShapes Go.ChangeAt Go.RowKit
set_option linter.unusedVariables false

/-- what a call that makes memory alone leaves of the blocks that were there -/
theorem kept {W w1 : World} (hb : Below W.heap.size W w1) : (∀ b o, b < W.heap.size → w1.cell? ⟨b, o, none⟩ = W.cell? ⟨b, o, none⟩) ∧ (∀ b o, b < W.heap.size → w1.frozen? ⟨b, o, none⟩ = W.frozen? ⟨b, o, none⟩) ∧ (∀ b, b < W.heap.size → b < w1.heap.size) ∧ W.heap.size ≤ w1.heap.size :=
  ⟨fun b o h => hb.cell (p := ⟨b, o, none⟩) h, fun b o h => hb.frozen (p := ⟨b, o, none⟩) h, fun b h => Nat.lt_of_lt_of_le h hb.size, hb.size⟩
theorem fbel_call {w W w1 : World} (h : Below w.heap.size w W) (hb : Below W.heap.size W w1) : Below w.heap.size w w1 := h.trans (hb.mono h.size)
theorem bel_alloc {w W : World} (h : Below w.heap.size w W) (o : Obj) : Below w.heap.size w (W.alloc o) := h.alloc h.size o

theorem prod_bd (a b : Int) (ha : -1000000000 ≤ a ∧ a ≤ 1000000000) (hb : -1000000000 ≤ b ∧ b ≤ 1000000000) : -1000000000000000000 ≤ a * b ∧ a * b ≤ 1000000000000000000 := by
  have h1 : (a * b).natAbs = a.natAbs * b.natAbs := Int.natAbs_mul a b
  have h2 : a.natAbs * b.natAbs ≤ 1000000000 * 1000000000 := Nat.mul_le_mul (by omega) (by omega)
  generalize a.natAbs * b.natAbs = k at *
  omega
theorem fok_bd {n d : Int} (h : frOk n d = true) : (-1000000000 ≤ n ∧ n ≤ 1000000000) ∧ 1 ≤ d ∧ d ≤ 1000000000 := by
  unfold frOk at h
  rw [decide_eq_true_iff] at h
  exact ⟨⟨h.2.2.1, h.2.2.2.1⟩, h.1, h.2.1⟩

def pairAns (n0 d0 n1 d1 x y : Int) : Value := if frOk n0 d0 = true ∧ frOk n1 d1 = true then .tuple #[.agg #[.int .i64 (frN x y), .int .i64 (frD x y)], .int .i64 (frCode x y)] else .tuple #[.agg #[.int .i64 0, .int .i64 0], .int .i64 1]
def lessAns (n0 d0 n1 d1 : Int) : Value := if frOk n0 d0 = true ∧ frOk n1 d1 = true then .tuple #[.bool (decide (n0 * d1 < n1 * d0)), .int .i64 0] else .tuple #[.bool false, .int .i64 1]

set_option maxHeartbeats 400000 in
theorem specAdd_bad1 (n0 d0 n1 d1 : Int) (w : World) (H0 : Hid (frOk n0 d0 = false))  :
    Calls Try.prog 46 #[.agg #[.int .i64 n0, .int .i64 d0], .agg #[.int .i64 n1, .int .i64 d1]] w fun e w' => e = .returned (.tuple #[.agg #[.int .i64 0, .int .i64 0], .int .i64 1]) ∧ Below w.heap.size w w' := by
  go_enter Try.func46, Try.ntmps46
  go_wp2_with fail
  refine (specOK_any _ _ _).mono ?_
  rintro e w1 ⟨rfl, hb⟩
  rw [unhide H0]
  have HB := hide hb
  have x00 := keep1 hb (b := w.heap.size) (o := 0) (v := .int .i64 n0) (by simp [go_sem])
  have x01 := keep1 hb (b := w.heap.size) (o := 1) (v := .int .i64 d0) (by simp [go_sem])
  have x10 := keep1 hb (b := w.heap.size + 1) (o := 0) (v := .int .i64 n1) (by simp [go_sem])
  have x11 := keep1 hb (b := w.heap.size + 1) (o := 1) (v := .int .i64 d1) (by simp [go_sem])
  have x20 := keep1 hb (b := w.heap.size + 1 + 1) (o := 0) (v := .int .i64 0) (by simp [go_sem])
  have xf0 := keepz hb (b := w.heap.size + 1 + 1) (o := 0) (by simp) (by simp [go_sem])
  have x21 := keep1 hb (b := w.heap.size + 1 + 1) (o := 1) (v := .int .i64 0) (by simp [go_sem])
  have xf1 := keepz hb (b := w.heap.size + 1 + 1) (o := 1) (by simp) (by simp [go_sem])
  have xl0 := cell_lt x00
  have xl1 := cell_lt x10
  have xl2 := cell_lt x20
  have hzx := hb.size
  clear hb
  go_wp2
  refine bodyPost_ret (v := .tuple #[.agg #[.int .i64 0, .int .i64 0], .int .i64 1]) (by simp [results, Try.results46, go_sem, x20, x21]) rfl ⟨rfl, ?_⟩
  repeat (first | exact Below.refl _ _ | refine Below.setCell ?_ (by simp <;> omega) _ | refine bel_alloc ?_ _ | refine fbel_call ?_ (unhide HB))
set_option maxHeartbeats 400000 in
theorem specAdd_bad2 (n0 d0 n1 d1 : Int) (w : World) (H0 : Hid (frOk n0 d0 = true)) (H1 : Hid (frOk n1 d1 = false))  :
    Calls Try.prog 46 #[.agg #[.int .i64 n0, .int .i64 d0], .agg #[.int .i64 n1, .int .i64 d1]] w fun e w' => e = .returned (.tuple #[.agg #[.int .i64 0, .int .i64 0], .int .i64 1]) ∧ Below w.heap.size w w' := by
  go_enter Try.func46, Try.ntmps46
  go_wp2_with fail
  refine (specOK_any _ _ _).mono ?_
  rintro e w1 ⟨rfl, hb⟩
  rw [unhide H0]
  have HB := hide hb
  have x00 := keep1 hb (b := w.heap.size) (o := 0) (v := .int .i64 n0) (by simp [go_sem])
  have x01 := keep1 hb (b := w.heap.size) (o := 1) (v := .int .i64 d0) (by simp [go_sem])
  have x10 := keep1 hb (b := w.heap.size + 1) (o := 0) (v := .int .i64 n1) (by simp [go_sem])
  have x11 := keep1 hb (b := w.heap.size + 1) (o := 1) (v := .int .i64 d1) (by simp [go_sem])
  have x20 := keep1 hb (b := w.heap.size + 1 + 1) (o := 0) (v := .int .i64 0) (by simp [go_sem])
  have xf0 := keepz hb (b := w.heap.size + 1 + 1) (o := 0) (by simp) (by simp [go_sem])
  have x21 := keep1 hb (b := w.heap.size + 1 + 1) (o := 1) (v := .int .i64 0) (by simp [go_sem])
  have xf1 := keepz hb (b := w.heap.size + 1 + 1) (o := 1) (by simp) (by simp [go_sem])
  have xl0 := cell_lt x00
  have xl1 := cell_lt x10
  have xl2 := cell_lt x20
  have hzx := hb.size
  clear hb
  go_wp2_with fail
  refine (specOK_any _ _ _).mono ?_
  rintro e w2 ⟨rfl, hb⟩
  rw [unhide H1]
  have HB2 := hide hb
  have y00 := keep1 hb x00
  have y01 := keep1 hb x01
  have y10 := keep1 hb x10
  have y11 := keep1 hb x11
  have y20 := keep1 hb x20
  have yf0 := keepz hb (cell_lt x20) xf0
  have y21 := keep1 hb x21
  have yf1 := keepz hb (cell_lt x21) xf1
  have yl0 := cell_lt y00
  have yl1 := cell_lt y10
  have yl2 := cell_lt y20
  have hzy := hb.size
  clear hb x00 x01 x10 x11 x20 x21 xf0 xf1 xl0 xl1 xl2
  go_wp2
  refine bodyPost_ret (v := .tuple #[.agg #[.int .i64 0, .int .i64 0], .int .i64 1]) (by simp [results, Try.results46, go_sem, y20, y21]) rfl ⟨rfl, ?_⟩
  repeat (first | exact Below.refl _ _ | refine Below.setCell ?_ (by simp <;> omega) _ | refine bel_alloc ?_ _ | refine fbel_call ?_ (unhide HB2) | refine fbel_call ?_ (unhide HB))
set_option maxHeartbeats 400000 in
theorem specAdd_good (n0 d0 n1 d1 X Y C : Int) (w : World) (H0 : Hid (frOk n0 d0 = true)) (H1 : Hid (frOk n1 d1 = true)) 
    (HC : Hid (∀ W, Calls Try.prog 47 #[.int .i64 (n0 * d1 + n1 * d0), .int .i64 (d0 * d1)] W fun e w' => e = .returned (.tuple #[.agg #[.int .i64 X, .int .i64 Y], .int .i64 C]) ∧ Below W.heap.size W w')) :
    Calls Try.prog 46 #[.agg #[.int .i64 n0, .int .i64 d0], .agg #[.int .i64 n1, .int .i64 d1]] w fun e w' => e = .returned (.tuple #[.agg #[.int .i64 X, .int .i64 Y], .int .i64 C]) ∧ Below w.heap.size w w' := by
  obtain ⟨⟨c1, c2⟩, c3, c4⟩ := fok_bd (unhide H0)
  obtain ⟨⟨e1, e2⟩, e3, e4⟩ := fok_bd (unhide H1)
  have p1 := prod_bd n0 d1 ⟨c1, c2⟩ ⟨by omega, e4⟩
  have p2 := prod_bd n1 d0 ⟨e1, e2⟩ ⟨by omega, c4⟩
  have p3 := prod_bd d0 d1 ⟨by omega, c4⟩ ⟨by omega, e4⟩
  have p4 := prod_bd n0 n1 ⟨c1, c2⟩ ⟨e1, e2⟩
  go_enter Try.func46, Try.ntmps46
  go_wp2_with fail
  refine (specOK_any _ _ _).mono ?_
  rintro e w1 ⟨rfl, hb⟩
  rw [unhide H0]
  have HB := hide hb
  have x00 := keep1 hb (b := w.heap.size) (o := 0) (v := .int .i64 n0) (by simp [go_sem])
  have x01 := keep1 hb (b := w.heap.size) (o := 1) (v := .int .i64 d0) (by simp [go_sem])
  have x10 := keep1 hb (b := w.heap.size + 1) (o := 0) (v := .int .i64 n1) (by simp [go_sem])
  have x11 := keep1 hb (b := w.heap.size + 1) (o := 1) (v := .int .i64 d1) (by simp [go_sem])
  have x20 := keep1 hb (b := w.heap.size + 1 + 1) (o := 0) (v := .int .i64 0) (by simp [go_sem])
  have xf0 := keepz hb (b := w.heap.size + 1 + 1) (o := 0) (by simp) (by simp [go_sem])
  have x21 := keep1 hb (b := w.heap.size + 1 + 1) (o := 1) (v := .int .i64 0) (by simp [go_sem])
  have xf1 := keepz hb (b := w.heap.size + 1 + 1) (o := 1) (by simp) (by simp [go_sem])
  have xl0 := cell_lt x00
  have xl1 := cell_lt x10
  have xl2 := cell_lt x20
  have hzx := hb.size
  clear hb
  go_wp2_with fail
  refine (specOK_any _ _ _).mono ?_
  rintro e w2 ⟨rfl, hb⟩
  rw [unhide H1]
  have HB2 := hide hb
  have y00 := keep1 hb x00
  have y01 := keep1 hb x01
  have y10 := keep1 hb x10
  have y11 := keep1 hb x11
  have y20 := keep1 hb x20
  have yf0 := keepz hb (cell_lt x20) xf0
  have y21 := keep1 hb x21
  have yf1 := keepz hb (cell_lt x21) xf1
  have yl0 := cell_lt y00
  have yl1 := cell_lt y10
  have yl2 := cell_lt y20
  have hzy := hb.size
  clear hb x00 x01 x10 x11 x20 x21 xf0 xf1 xl0 xl1 xl2
  go_wp2_with fail
  refine (unhide HC _).mono ?_
  rintro e w3 ⟨rfl, hb⟩
  have HB3 := hide hb
  have z00 := keep1 hb y00
  have z01 := keep1 hb y01
  have z10 := keep1 hb y10
  have z11 := keep1 hb y11
  have z20 := keep1 hb y20
  have zf0 := keepz hb (cell_lt y20) yf0
  have z21 := keep1 hb y21
  have zf1 := keepz hb (cell_lt y21) yf1
  have zl0 := cell_lt z00
  have zl1 := cell_lt z10
  have zl2 := cell_lt z20
  have hzz := hb.size
  clear hb y00 y01 y10 y11 y20 y21 yf0 yf1 yl0 yl1 yl2
  go_wp2
  refine bodyPost_ret (v := .tuple #[.agg #[.int .i64 X, .int .i64 Y], .int .i64 C]) (by simp [results, Try.results46, go_sem, z20, z21]) rfl ⟨rfl, ?_⟩
  repeat (first | exact Below.refl _ _ | refine Below.setCell ?_ (by simp <;> omega) _ | refine bel_alloc ?_ _ | refine fbel_call ?_ (unhide HB3) | refine fbel_call ?_ (unhide HB2) | refine fbel_call ?_ (unhide HB))
theorem specAdd_any (n0 d0 n1 d1 : Int) (w : World) (a1 : -9223372036854775808 ≤ n0) (a2 : n0 ≤ 9223372036854775807) (a3 : -9223372036854775808 ≤ d0) (a4 : d0 ≤ 9223372036854775807) (b1 : -9223372036854775808 ≤ n1) (b2 : n1 ≤ 9223372036854775807) (b3 : -9223372036854775808 ≤ d1) (b4 : d1 ≤ 9223372036854775807) :
    Calls Try.prog 46 #[.agg #[.int .i64 n0, .int .i64 d0], .agg #[.int .i64 n1, .int .i64 d1]] w fun e w' => e = .returned (pairAns n0 d0 n1 d1 (n0 * d1 + n1 * d0) (d0 * d1)) ∧ Below w.heap.size w w' := by
  unfold pairAns
  by_cases h0 : frOk n0 d0 = true
  · by_cases h1 : frOk n1 d1 = true
    · rw [if_pos ⟨h0, h1⟩]
      obtain ⟨⟨c1, c2⟩, c3, c4⟩ := fok_bd h0
      obtain ⟨⟨e1, e2⟩, e3, e4⟩ := fok_bd h1
      have p1 := prod_bd n0 d1 ⟨c1, c2⟩ ⟨by omega, e4⟩
      have p2 := prod_bd n1 d0 ⟨e1, e2⟩ ⟨by omega, c4⟩
      have p3 := prod_bd d0 d1 ⟨by omega, c4⟩ ⟨by omega, e4⟩
      have p4 := prod_bd n0 n1 ⟨c1, c2⟩ ⟨e1, e2⟩
      exact specAdd_good n0 d0 n1 d1 _ _ _ w (hide h0) (hide h1)  (hide fun W => specOf_any _ _ W (by omega) (by omega) (by omega) (by omega))
    · rw [if_neg (fun h => h1 h.2)]
      exact specAdd_bad2 n0 d0 n1 d1 w (hide h0) (hide (by simpa using h1)) 
  · rw [if_neg (fun h => h0 h.1)]
    exact specAdd_bad1 n0 d0 n1 d1 w (hide (by simpa using h0)) 
set_option maxHeartbeats 400000 in
theorem implAdd_bad1 (n0 d0 n1 d1 : Int) (w : World) (H0 : Hid (frOk n0 d0 = false)) (a1 : -9223372036854775808 ≤ n0) (a2 : n0 ≤ 9223372036854775807) (a3 : -9223372036854775808 ≤ d0) (a4 : d0 ≤ 9223372036854775807) (b1 : -9223372036854775808 ≤ n1) (b2 : n1 ≤ 9223372036854775807) (b3 : -9223372036854775808 ≤ d1) (b4 : d1 ≤ 9223372036854775807) :
    Calls Try.prog 69 #[.agg #[.int .i64 n0, .int .i64 d0], .agg #[.int .i64 n1, .int .i64 d1]] w fun e w' => e = .returned (.tuple #[.agg #[.int .i64 0, .int .i64 0], .int .i64 1]) ∧ Below w.heap.size w w' := by
  go_enter Try.func69, Try.ntmps69
  go_wp2_with fail
  refine (implOK_any _ _ _ a1 a2 a3 a4).mono ?_
  rintro e w1 ⟨rfl, hb⟩
  rw [unhide H0]
  have HB := hide hb
  have x00 := keep1 hb (b := w.heap.size) (o := 0) (v := .int .i64 n0) (by simp [go_sem])
  have x01 := keep1 hb (b := w.heap.size) (o := 1) (v := .int .i64 d0) (by simp [go_sem])
  have x10 := keep1 hb (b := w.heap.size + 1) (o := 0) (v := .int .i64 n1) (by simp [go_sem])
  have x11 := keep1 hb (b := w.heap.size + 1) (o := 1) (v := .int .i64 d1) (by simp [go_sem])
  have x20 := keep1 hb (b := w.heap.size + 1 + 1) (o := 0) (v := .int .i64 0) (by simp [go_sem])
  have xf0 := keepz hb (b := w.heap.size + 1 + 1) (o := 0) (by simp) (by simp [go_sem])
  have x21 := keep1 hb (b := w.heap.size + 1 + 1) (o := 1) (v := .int .i64 0) (by simp [go_sem])
  have xf1 := keepz hb (b := w.heap.size + 1 + 1) (o := 1) (by simp) (by simp [go_sem])
  have xl0 := cell_lt x00
  have xl1 := cell_lt x10
  have xl2 := cell_lt x20
  have hzx := hb.size
  clear hb
  go_wp2
  refine bodyPost_ret (v := .tuple #[.agg #[.int .i64 0, .int .i64 0], .int .i64 1]) (by simp [results, Try.results69, go_sem, x20, x21]) rfl ⟨rfl, ?_⟩
  repeat (first | exact Below.refl _ _ | refine Below.setCell ?_ (by simp <;> omega) _ | refine bel_alloc ?_ _ | refine fbel_call ?_ (unhide HB))
set_option maxHeartbeats 400000 in
theorem implAdd_bad2 (n0 d0 n1 d1 : Int) (w : World) (H0 : Hid (frOk n0 d0 = true)) (H1 : Hid (frOk n1 d1 = false)) (a1 : -9223372036854775808 ≤ n0) (a2 : n0 ≤ 9223372036854775807) (a3 : -9223372036854775808 ≤ d0) (a4 : d0 ≤ 9223372036854775807) (b1 : -9223372036854775808 ≤ n1) (b2 : n1 ≤ 9223372036854775807) (b3 : -9223372036854775808 ≤ d1) (b4 : d1 ≤ 9223372036854775807) :
    Calls Try.prog 69 #[.agg #[.int .i64 n0, .int .i64 d0], .agg #[.int .i64 n1, .int .i64 d1]] w fun e w' => e = .returned (.tuple #[.agg #[.int .i64 0, .int .i64 0], .int .i64 1]) ∧ Below w.heap.size w w' := by
  go_enter Try.func69, Try.ntmps69
  go_wp2_with fail
  refine (implOK_any _ _ _ a1 a2 a3 a4).mono ?_
  rintro e w1 ⟨rfl, hb⟩
  rw [unhide H0]
  have HB := hide hb
  have x00 := keep1 hb (b := w.heap.size) (o := 0) (v := .int .i64 n0) (by simp [go_sem])
  have x01 := keep1 hb (b := w.heap.size) (o := 1) (v := .int .i64 d0) (by simp [go_sem])
  have x10 := keep1 hb (b := w.heap.size + 1) (o := 0) (v := .int .i64 n1) (by simp [go_sem])
  have x11 := keep1 hb (b := w.heap.size + 1) (o := 1) (v := .int .i64 d1) (by simp [go_sem])
  have x20 := keep1 hb (b := w.heap.size + 1 + 1) (o := 0) (v := .int .i64 0) (by simp [go_sem])
  have xf0 := keepz hb (b := w.heap.size + 1 + 1) (o := 0) (by simp) (by simp [go_sem])
  have x21 := keep1 hb (b := w.heap.size + 1 + 1) (o := 1) (v := .int .i64 0) (by simp [go_sem])
  have xf1 := keepz hb (b := w.heap.size + 1 + 1) (o := 1) (by simp) (by simp [go_sem])
  have xl0 := cell_lt x00
  have xl1 := cell_lt x10
  have xl2 := cell_lt x20
  have hzx := hb.size
  clear hb
  go_wp2_with fail
  refine (implOK_any _ _ _ b1 b2 b3 b4).mono ?_
  rintro e w2 ⟨rfl, hb⟩
  rw [unhide H1]
  have HB2 := hide hb
  have y00 := keep1 hb x00
  have y01 := keep1 hb x01
  have y10 := keep1 hb x10
  have y11 := keep1 hb x11
  have y20 := keep1 hb x20
  have yf0 := keepz hb (cell_lt x20) xf0
  have y21 := keep1 hb x21
  have yf1 := keepz hb (cell_lt x21) xf1
  have yl0 := cell_lt y00
  have yl1 := cell_lt y10
  have yl2 := cell_lt y20
  have hzy := hb.size
  clear hb x00 x01 x10 x11 x20 x21 xf0 xf1 xl0 xl1 xl2
  go_wp2
  refine bodyPost_ret (v := .tuple #[.agg #[.int .i64 0, .int .i64 0], .int .i64 1]) (by simp [results, Try.results69, go_sem, y20, y21]) rfl ⟨rfl, ?_⟩
  repeat (first | exact Below.refl _ _ | refine Below.setCell ?_ (by simp <;> omega) _ | refine bel_alloc ?_ _ | refine fbel_call ?_ (unhide HB2) | refine fbel_call ?_ (unhide HB))
set_option maxHeartbeats 400000 in
theorem implAdd_good (n0 d0 n1 d1 X Y C : Int) (w : World) (H0 : Hid (frOk n0 d0 = true)) (H1 : Hid (frOk n1 d1 = true)) (a1 : -9223372036854775808 ≤ n0) (a2 : n0 ≤ 9223372036854775807) (a3 : -9223372036854775808 ≤ d0) (a4 : d0 ≤ 9223372036854775807) (b1 : -9223372036854775808 ≤ n1) (b2 : n1 ≤ 9223372036854775807) (b3 : -9223372036854775808 ≤ d1) (b4 : d1 ≤ 9223372036854775807)
    (HC : Hid (∀ W, Calls Try.prog 68 #[.int .i64 (n0 * d1 + n1 * d0), .int .i64 (d0 * d1)] W fun e w' => e = .returned (.tuple #[.agg #[.int .i64 X, .int .i64 Y], .int .i64 C]) ∧ Below W.heap.size W w')) :
    Calls Try.prog 69 #[.agg #[.int .i64 n0, .int .i64 d0], .agg #[.int .i64 n1, .int .i64 d1]] w fun e w' => e = .returned (.tuple #[.agg #[.int .i64 X, .int .i64 Y], .int .i64 C]) ∧ Below w.heap.size w w' := by
  obtain ⟨⟨c1, c2⟩, c3, c4⟩ := fok_bd (unhide H0)
  obtain ⟨⟨e1, e2⟩, e3, e4⟩ := fok_bd (unhide H1)
  have p1 := prod_bd n0 d1 ⟨c1, c2⟩ ⟨by omega, e4⟩
  have p2 := prod_bd n1 d0 ⟨e1, e2⟩ ⟨by omega, c4⟩
  have p3 := prod_bd d0 d1 ⟨by omega, c4⟩ ⟨by omega, e4⟩
  have p4 := prod_bd n0 n1 ⟨c1, c2⟩ ⟨e1, e2⟩
  go_enter Try.func69, Try.ntmps69
  go_wp2_with fail
  refine (implOK_any _ _ _ a1 a2 a3 a4).mono ?_
  rintro e w1 ⟨rfl, hb⟩
  rw [unhide H0]
  have HB := hide hb
  have x00 := keep1 hb (b := w.heap.size) (o := 0) (v := .int .i64 n0) (by simp [go_sem])
  have x01 := keep1 hb (b := w.heap.size) (o := 1) (v := .int .i64 d0) (by simp [go_sem])
  have x10 := keep1 hb (b := w.heap.size + 1) (o := 0) (v := .int .i64 n1) (by simp [go_sem])
  have x11 := keep1 hb (b := w.heap.size + 1) (o := 1) (v := .int .i64 d1) (by simp [go_sem])
  have x20 := keep1 hb (b := w.heap.size + 1 + 1) (o := 0) (v := .int .i64 0) (by simp [go_sem])
  have xf0 := keepz hb (b := w.heap.size + 1 + 1) (o := 0) (by simp) (by simp [go_sem])
  have x21 := keep1 hb (b := w.heap.size + 1 + 1) (o := 1) (v := .int .i64 0) (by simp [go_sem])
  have xf1 := keepz hb (b := w.heap.size + 1 + 1) (o := 1) (by simp) (by simp [go_sem])
  have xl0 := cell_lt x00
  have xl1 := cell_lt x10
  have xl2 := cell_lt x20
  have hzx := hb.size
  clear hb
  go_wp2_with fail
  refine (implOK_any _ _ _ b1 b2 b3 b4).mono ?_
  rintro e w2 ⟨rfl, hb⟩
  rw [unhide H1]
  have HB2 := hide hb
  have y00 := keep1 hb x00
  have y01 := keep1 hb x01
  have y10 := keep1 hb x10
  have y11 := keep1 hb x11
  have y20 := keep1 hb x20
  have yf0 := keepz hb (cell_lt x20) xf0
  have y21 := keep1 hb x21
  have yf1 := keepz hb (cell_lt x21) xf1
  have yl0 := cell_lt y00
  have yl1 := cell_lt y10
  have yl2 := cell_lt y20
  have hzy := hb.size
  clear hb x00 x01 x10 x11 x20 x21 xf0 xf1 xl0 xl1 xl2
  go_wp2_with fail
  refine (unhide HC _).mono ?_
  rintro e w3 ⟨rfl, hb⟩
  have HB3 := hide hb
  have z00 := keep1 hb y00
  have z01 := keep1 hb y01
  have z10 := keep1 hb y10
  have z11 := keep1 hb y11
  have z20 := keep1 hb y20
  have zf0 := keepz hb (cell_lt y20) yf0
  have z21 := keep1 hb y21
  have zf1 := keepz hb (cell_lt y21) yf1
  have zl0 := cell_lt z00
  have zl1 := cell_lt z10
  have zl2 := cell_lt z20
  have hzz := hb.size
  clear hb y00 y01 y10 y11 y20 y21 yf0 yf1 yl0 yl1 yl2
  go_wp2
  refine bodyPost_ret (v := .tuple #[.agg #[.int .i64 X, .int .i64 Y], .int .i64 C]) (by simp [results, Try.results69, go_sem, z20, z21]) rfl ⟨rfl, ?_⟩
  repeat (first | exact Below.refl _ _ | refine Below.setCell ?_ (by simp <;> omega) _ | refine bel_alloc ?_ _ | refine fbel_call ?_ (unhide HB3) | refine fbel_call ?_ (unhide HB2) | refine fbel_call ?_ (unhide HB))
theorem implAdd_any (n0 d0 n1 d1 : Int) (w : World) (a1 : -9223372036854775808 ≤ n0) (a2 : n0 ≤ 9223372036854775807) (a3 : -9223372036854775808 ≤ d0) (a4 : d0 ≤ 9223372036854775807) (b1 : -9223372036854775808 ≤ n1) (b2 : n1 ≤ 9223372036854775807) (b3 : -9223372036854775808 ≤ d1) (b4 : d1 ≤ 9223372036854775807) :
    Calls Try.prog 69 #[.agg #[.int .i64 n0, .int .i64 d0], .agg #[.int .i64 n1, .int .i64 d1]] w fun e w' => e = .returned (pairAns n0 d0 n1 d1 (n0 * d1 + n1 * d0) (d0 * d1)) ∧ Below w.heap.size w w' := by
  unfold pairAns
  by_cases h0 : frOk n0 d0 = true
  · by_cases h1 : frOk n1 d1 = true
    · rw [if_pos ⟨h0, h1⟩]
      obtain ⟨⟨c1, c2⟩, c3, c4⟩ := fok_bd h0
      obtain ⟨⟨e1, e2⟩, e3, e4⟩ := fok_bd h1
      have p1 := prod_bd n0 d1 ⟨c1, c2⟩ ⟨by omega, e4⟩
      have p2 := prod_bd n1 d0 ⟨e1, e2⟩ ⟨by omega, c4⟩
      have p3 := prod_bd d0 d1 ⟨by omega, c4⟩ ⟨by omega, e4⟩
      have p4 := prod_bd n0 n1 ⟨c1, c2⟩ ⟨e1, e2⟩
      exact implAdd_good n0 d0 n1 d1 _ _ _ w (hide h0) (hide h1) a1 a2 a3 a4 b1 b2 b3 b4 (hide fun W => implOf_any _ _ W (by omega) (by omega) (by omega) (by omega))
    · rw [if_neg (fun h => h1 h.2)]
      exact implAdd_bad2 n0 d0 n1 d1 w (hide h0) (hide (by simpa using h1)) a1 a2 a3 a4 b1 b2 b3 b4
  · rw [if_neg (fun h => h0 h.1)]
    exact implAdd_bad1 n0 d0 n1 d1 w (hide (by simpa using h0)) a1 a2 a3 a4 b1 b2 b3 b4
set_option maxHeartbeats 400000 in
theorem specLess_bad1 (n0 d0 n1 d1 : Int) (w : World) (H0 : Hid (frOk n0 d0 = false))  :
    Calls Try.prog 17 #[.agg #[.int .i64 n0, .int .i64 d0], .agg #[.int .i64 n1, .int .i64 d1]] w fun e w' => e = .returned (.tuple #[.bool false, .int .i64 1]) ∧ Below w.heap.size w w' := by
  go_enter Try.func17, Try.ntmps17
  go_wp2_with fail
  refine (specOK_any _ _ _).mono ?_
  rintro e w1 ⟨rfl, hb⟩
  rw [unhide H0]
  have HB := hide hb
  have x00 := keep1 hb (b := w.heap.size) (o := 0) (v := .int .i64 n0) (by simp [go_sem])
  have x01 := keep1 hb (b := w.heap.size) (o := 1) (v := .int .i64 d0) (by simp [go_sem])
  have x10 := keep1 hb (b := w.heap.size + 1) (o := 0) (v := .int .i64 n1) (by simp [go_sem])
  have x11 := keep1 hb (b := w.heap.size + 1) (o := 1) (v := .int .i64 d1) (by simp [go_sem])
  have xl0 := cell_lt x00
  have xl1 := cell_lt x10
  have hzx := hb.size
  clear hb
  go_wp2
  go_ret2
  refine ⟨rfl, ?_⟩
  repeat (first | exact Below.refl _ _ | refine Below.setCell ?_ (by simp <;> omega) _ | refine bel_alloc ?_ _ | refine fbel_call ?_ (unhide HB))
set_option maxHeartbeats 400000 in
theorem specLess_bad2 (n0 d0 n1 d1 : Int) (w : World) (H0 : Hid (frOk n0 d0 = true)) (H1 : Hid (frOk n1 d1 = false))  :
    Calls Try.prog 17 #[.agg #[.int .i64 n0, .int .i64 d0], .agg #[.int .i64 n1, .int .i64 d1]] w fun e w' => e = .returned (.tuple #[.bool false, .int .i64 1]) ∧ Below w.heap.size w w' := by
  go_enter Try.func17, Try.ntmps17
  go_wp2_with fail
  refine (specOK_any _ _ _).mono ?_
  rintro e w1 ⟨rfl, hb⟩
  rw [unhide H0]
  have HB := hide hb
  have x00 := keep1 hb (b := w.heap.size) (o := 0) (v := .int .i64 n0) (by simp [go_sem])
  have x01 := keep1 hb (b := w.heap.size) (o := 1) (v := .int .i64 d0) (by simp [go_sem])
  have x10 := keep1 hb (b := w.heap.size + 1) (o := 0) (v := .int .i64 n1) (by simp [go_sem])
  have x11 := keep1 hb (b := w.heap.size + 1) (o := 1) (v := .int .i64 d1) (by simp [go_sem])
  have xl0 := cell_lt x00
  have xl1 := cell_lt x10
  have hzx := hb.size
  clear hb
  go_wp2_with fail
  refine (specOK_any _ _ _).mono ?_
  rintro e w2 ⟨rfl, hb⟩
  rw [unhide H1]
  have HB2 := hide hb
  have y00 := keep1 hb x00
  have y01 := keep1 hb x01
  have y10 := keep1 hb x10
  have y11 := keep1 hb x11
  have yl0 := cell_lt y00
  have yl1 := cell_lt y10
  have hzy := hb.size
  clear hb x00 x01 x10 x11 xl0 xl1
  go_wp2
  go_ret2
  refine ⟨rfl, ?_⟩
  repeat (first | exact Below.refl _ _ | refine Below.setCell ?_ (by simp <;> omega) _ | refine bel_alloc ?_ _ | refine fbel_call ?_ (unhide HB2) | refine fbel_call ?_ (unhide HB))
set_option maxHeartbeats 400000 in
theorem specLess_good (n0 d0 n1 d1 : Int) (w : World) (H0 : Hid (frOk n0 d0 = true)) (H1 : Hid (frOk n1 d1 = true))  :
    Calls Try.prog 17 #[.agg #[.int .i64 n0, .int .i64 d0], .agg #[.int .i64 n1, .int .i64 d1]] w fun e w' => e = .returned (.tuple #[.bool (decide (n0 * d1 < n1 * d0)), .int .i64 0]) ∧ Below w.heap.size w w' := by
  obtain ⟨⟨c1, c2⟩, c3, c4⟩ := fok_bd (unhide H0)
  obtain ⟨⟨e1, e2⟩, e3, e4⟩ := fok_bd (unhide H1)
  have p1 := prod_bd n0 d1 ⟨c1, c2⟩ ⟨by omega, e4⟩
  have p2 := prod_bd n1 d0 ⟨e1, e2⟩ ⟨by omega, c4⟩
  go_enter Try.func17, Try.ntmps17
  go_wp2_with fail
  refine (specOK_any _ _ _).mono ?_
  rintro e w1 ⟨rfl, hb⟩
  rw [unhide H0]
  have HB := hide hb
  have x00 := keep1 hb (b := w.heap.size) (o := 0) (v := .int .i64 n0) (by simp [go_sem])
  have x01 := keep1 hb (b := w.heap.size) (o := 1) (v := .int .i64 d0) (by simp [go_sem])
  have x10 := keep1 hb (b := w.heap.size + 1) (o := 0) (v := .int .i64 n1) (by simp [go_sem])
  have x11 := keep1 hb (b := w.heap.size + 1) (o := 1) (v := .int .i64 d1) (by simp [go_sem])
  have xl0 := cell_lt x00
  have xl1 := cell_lt x10
  have hzx := hb.size
  clear hb
  go_wp2_with fail
  refine (specOK_any _ _ _).mono ?_
  rintro e w2 ⟨rfl, hb⟩
  rw [unhide H1]
  have HB2 := hide hb
  have y00 := keep1 hb x00
  have y01 := keep1 hb x01
  have y10 := keep1 hb x10
  have y11 := keep1 hb x11
  have yl0 := cell_lt y00
  have yl1 := cell_lt y10
  have hzy := hb.size
  clear hb x00 x01 x10 x11 xl0 xl1
  go_wp2
  go_ret2
  refine ⟨rfl, ?_⟩
  repeat (first | exact Below.refl _ _ | refine Below.setCell ?_ (by simp <;> omega) _ | refine bel_alloc ?_ _ | refine fbel_call ?_ (unhide HB2) | refine fbel_call ?_ (unhide HB))
theorem specLess_any (n0 d0 n1 d1 : Int) (w : World) (a1 : -9223372036854775808 ≤ n0) (a2 : n0 ≤ 9223372036854775807) (a3 : -9223372036854775808 ≤ d0) (a4 : d0 ≤ 9223372036854775807) (b1 : -9223372036854775808 ≤ n1) (b2 : n1 ≤ 9223372036854775807) (b3 : -9223372036854775808 ≤ d1) (b4 : d1 ≤ 9223372036854775807) :
    Calls Try.prog 17 #[.agg #[.int .i64 n0, .int .i64 d0], .agg #[.int .i64 n1, .int .i64 d1]] w fun e w' => e = .returned (lessAns n0 d0 n1 d1) ∧ Below w.heap.size w w' := by
  unfold lessAns
  by_cases h0 : frOk n0 d0 = true
  · by_cases h1 : frOk n1 d1 = true
    · rw [if_pos ⟨h0, h1⟩]
      exact specLess_good n0 d0 n1 d1 w (hide h0) (hide h1) 
    · rw [if_neg (fun h => h1 h.2)]
      exact specLess_bad2 n0 d0 n1 d1 w (hide h0) (hide (by simpa using h1)) 
  · rw [if_neg (fun h => h0 h.1)]
    exact specLess_bad1 n0 d0 n1 d1 w (hide (by simpa using h0)) 
end Go.Proofs.Ytimkinpbimangaa
