/-
  When a fraction is right; sums, products and comparisons.
-/
import Derived.Test.YtidafleegkofkaaDoorImplOf
import Derived.Deep.RegionHeld3
namespace Go.Proofs.YtidafleegkofkaaDoor
open Go.ChangeShapes Go.WideShapes Go.ChangeAt Go.RowKit
set_option linter.unusedVariables false
set_option linter.unusedSimpArgs false

theorem bcell {W w1 : World} (hb : Below W.heap.size W w1) : (∀ b o, b < W.heap.size → w1.cell? ⟨b, o, none⟩ = W.cell? ⟨b, o, none⟩) ∧ (∀ b o, b < W.heap.size → w1.frozen? ⟨b, o, none⟩ = W.frozen? ⟨b, o, none⟩) :=
  ⟨fun b o h => hb.cell (p := ⟨b, o, none⟩) h, fun b o h => hb.frozen (p := ⟨b, o, none⟩) h⟩

theorem ok_false (n d : Int) (h : d < 1 ∨ 1000000000 < d ∨ n < -1000000000 ∨ 1000000000 < n) : frOk n d = false := decide_eq_false (by omega)

set_option maxHeartbeats 400000 in
theorem specOK_out (n d : Int) (w : World) (h : d < 1 ∨ (1 ≤ d ∧ 1000000000 < d) ∨ (1 ≤ d ∧ d ≤ 1000000000 ∧ n < -1000000000) ∨ (1 ≤ d ∧ d ≤ 1000000000 ∧ -1000000000 ≤ n ∧ 1000000000 < n)) :
    Calls Tryd.prog 16 #[.agg #[.int .i64 n, .int .i64 d]] w fun e w' => e = .returned (.bool false) ∧ Below w.heap.size w w' := by
  rcases h with h1 | ⟨h1, h2⟩ | ⟨h1, h2, h3⟩ | ⟨h1, h2, h3, h4⟩
  all_goals
    go_enter Tryd.func16, Tryd.ntmps16
    go_wp2
    go_ret
    exact ⟨rfl, by repeat (first | exact Below.refl _ _ | refine Below.alloc ?_ (by simp) _)⟩

set_option maxHeartbeats 400000 in
theorem specOK_in (n d : Int) (w : World) (h1 : 1 ≤ d) (h2 : d ≤ 1000000000) (h3 : -1000000000 ≤ n) (h4 : n ≤ 1000000000) :
    Calls Tryd.prog 16 #[.agg #[.int .i64 n, .int .i64 d]] w fun e w' => e = .returned (.bool (frOk n d)) ∧ Below w.heap.size w w' := by
  go_enter Tryd.func16, Tryd.ntmps16
  go_wp2_with fail
  refine (gcd_any _ _ _ (by omega) (by omega) (by omega) (by omega)).mono ?_
  rintro e w1 ⟨⟨r, rfl, hr, hs, hr1, hr2⟩, rfl⟩
  have hle : Nat.gcd n.natAbs d.natAbs ≤ 1000000000 := Nat.le_trans (Nat.gcd_le_right _ (by omega)) (by omega)
  rw [← hr] at hle
  have hok : frOk n d = ((r.natAbs : Int) == 1) := by
    unfold frOk
    rw [Bool.eq_iff_iff]
    simp
    rw [← hr]
    omega
  have HOK := hide hok
  clear hok hr hs
  go_wp2_with fail
  refine (abs_any _ _ (by omega) (by omega)).mono ?_
  rintro e w1 ⟨rfl, rfl⟩
  go_wp2
  go_ret
  exact ⟨by rw [unhide HOK]; rfl, by repeat (first | exact Below.refl _ _ | refine Below.alloc ?_ (by simp) _)⟩

theorem specOK_any (n d : Int) (w : World) :
    Calls Tryd.prog 16 #[.agg #[.int .i64 n, .int .i64 d]] w fun e w' => e = .returned (.bool (frOk n d)) ∧ Below w.heap.size w w' := by
  by_cases h : 1 ≤ d ∧ d ≤ 1000000000 ∧ -1000000000 ≤ n ∧ n ≤ 1000000000
  · exact specOK_in n d w h.1 h.2.1 h.2.2.1 h.2.2.2
  · rw [ok_false n d (by omega)]
    exact specOK_out n d w (by omega)

theorem below1 {w w1 : World} {o : Obj} (hb : Below (w.alloc o).heap.size (w.alloc o) w1) : Below w.heap.size w w1 :=
  ((Below.refl _ _).alloc (Nat.le_refl _) _).trans (hb.mono (by simp))

set_option maxHeartbeats 400000 in
theorem implOK_core (n d N D c : Int) (b : Bool) (w : World)
    (HC : Hid (∀ W, Calls Tryd.prog 15 #[.int .i64 n, .int .i64 d] W fun e w' => e = .returned (.tuple #[.agg #[.int .i64 N, .int .i64 D], .int .i64 c]) ∧ Below W.heap.size W w'))
    (h : (c == 0) = false ∧ b = false ∨ c = 0 ∧ (N == n) = false ∧ b = false ∨ c = 0 ∧ N = n ∧ (D == d) = false ∧ b = false ∨ c = 0 ∧ N = n ∧ D = d ∧ b = true) :
    Calls Tryd.prog 14 #[.agg #[.int .i64 n, .int .i64 d]] w fun e w' => e = .returned (.bool b) ∧ Below w.heap.size w w' := by
  rcases h with ⟨h0, rfl⟩ | ⟨rfl, h1, rfl⟩ | ⟨rfl, rfl, h2, rfl⟩ | ⟨rfl, rfl, rfl, rfl⟩
  all_goals
    go_enter Tryd.func14, Tryd.ntmps14
    go_wp2_with fail
    refine (unhide HC _).mono ?_
    rintro e w1 ⟨rfl, hb⟩
    have hb0 := hide (below1 hb)
    obtain ⟨hc, hf⟩ := bcell hb
    have hz : w.heap.size < w1.heap.size := by have := hb.size; simp at this; omega
    have c0 := hc w.heap.size 0 (by simp)
    have c1 := hc w.heap.size 1 (by simp)
    simp [go_sem] at c0 c1
    clear hb hc hf
    go_wp2
    go_ret
    exact ⟨rfl, (unhide hb0).alloc (by omega) _⟩

theorem implOK_any (n d : Int) (w : World) (hn1 : -9223372036854775808 ≤ n) (hn2 : n ≤ 9223372036854775807) (hd1 : -9223372036854775808 ≤ d) (hd2 : d ≤ 9223372036854775807) :
    Calls Tryd.prog 14 #[.agg #[.int .i64 n, .int .i64 d]] w fun e w' => e = .returned (.bool (frOk n d)) ∧ Below w.heap.size w w' := by
  refine implOK_core n d (frN n d) (frD n d) (frCode n d) _ w (hide fun W => implOf_any n d W hn1 hn2 hd1 hd2) ?_
  have hok := ok_iff n d
  by_cases h0 : frCode n d = 0
  · by_cases h1 : frN n d = n
    · by_cases h2 : frD n d = d
      · exact .inr (.inr (.inr ⟨h0, h1, h2, hok.2 ⟨h0, h1, h2⟩⟩))
      · exact .inr (.inr (.inl ⟨h0, h1, by simp [h2], by rw [Bool.eq_false_iff]; intro h; exact h2 (hok.1 h).2.2⟩))
    · exact .inr (.inl ⟨h0, by simp [h1], by rw [Bool.eq_false_iff]; intro h; exact h1 (hok.1 h).2.1⟩)
  · exact .inl ⟨by simp [h0], by rw [Bool.eq_false_iff]; intro h; exact h0 (hok.1 h).1⟩


/-- what a call that makes memory alone leaves of the blocks that were there -/
theorem kept {W w1 : World} (hb : Below W.heap.size W w1) : (∀ b o, b < W.heap.size → w1.cell? ⟨b, o, none⟩ = W.cell? ⟨b, o, none⟩) ∧ (∀ b o, b < W.heap.size → w1.frozen? ⟨b, o, none⟩ = W.frozen? ⟨b, o, none⟩) ∧ (∀ b, b < W.heap.size → b < w1.heap.size) ∧ W.heap.size ≤ w1.heap.size :=
  ⟨fun b o h => hb.cell (p := ⟨b, o, none⟩) h, fun b o h => hb.frozen (p := ⟨b, o, none⟩) h, fun b h => Nat.lt_of_lt_of_le h hb.size, hb.size⟩

theorem bel_call {w W w1 : World} (h : Below w.heap.size w W) (hb : Below W.heap.size W w1) : Below w.heap.size w w1 := h.trans (hb.mono h.size)

theorem bel_alloc {w W : World} (h : Below w.heap.size w W) (o : Obj) : Below w.heap.size w (W.alloc o) := h.alloc h.size o

theorem cell_lt {W : World} {b o : Nat} {v : Value} (h : W.cell? ⟨b, o, none⟩ = some v) : b < W.heap.size := by
  by_cases hb : b < W.heap.size
  · exact hb
  · have : W.heap[b]? = none := by simp; omega
    simp [World.cell?, this] at h

theorem keep1 {W w1 : World} (hb : Below W.heap.size W w1) {b o : Nat} {v : Value} (h : W.cell? ⟨b, o, none⟩ = some v) : w1.cell? ⟨b, o, none⟩ = some v :=
  (hb.cell (p := ⟨b, o, none⟩) (cell_lt h)).trans h

theorem keepz {W w1 : World} (hb : Below W.heap.size W w1) {b o : Nat} (h : b < W.heap.size) (hf : W.frozen? ⟨b, o, none⟩ = false) : w1.frozen? ⟨b, o, none⟩ = false :=
  (hb.frozen (p := ⟨b, o, none⟩) h).trans hf

theorem prod_bd (a b : Int) (ha : -1000000000 ≤ a ∧ a ≤ 1000000000) (hb : -1000000000 ≤ b ∧ b ≤ 1000000000) : -1000000000000000000 ≤ a * b ∧ a * b ≤ 1000000000000000000 := by
  have h1 : (a * b).natAbs = a.natAbs * b.natAbs := Int.natAbs_mul a b
  have h2 : a.natAbs * b.natAbs ≤ 1000000000 * 1000000000 := Nat.mul_le_mul (by omega) (by omega)
  generalize a.natAbs * b.natAbs = k at *
  omega

theorem ok_bd {n d : Int} (h : frOk n d = true) : (-1000000000 ≤ n ∧ n ≤ 1000000000) ∧ 1 ≤ d ∧ d ≤ 1000000000 := by
  unfold frOk at h
  rw [decide_eq_true_iff] at h
  exact ⟨⟨h.2.2.1, h.2.2.2.1⟩, h.1, h.2.1⟩

def pairAns (n0 d0 n1 d1 x y : Int) : Value := if frOk n0 d0 = true ∧ frOk n1 d1 = true then .tuple #[.agg #[.int .i64 (frN x y), .int .i64 (frD x y)], .int .i64 (frCode x y)] else .tuple #[.agg #[.int .i64 0, .int .i64 0], .int .i64 1]

def lessAns (n0 d0 n1 d1 : Int) : Value := if frOk n0 d0 = true ∧ frOk n1 d1 = true then .tuple #[.bool (decide (n0 * d1 < n1 * d0)), .int .i64 0] else .tuple #[.bool false, .int .i64 1]

set_option maxHeartbeats 400000 in
theorem specAdd_bad1 (n0 d0 n1 d1 : Int) (w : World) (H0 : Hid (frOk n0 d0 = false))  :
    Calls Tryd.prog 6 #[.agg #[.int .i64 n0, .int .i64 d0], .agg #[.int .i64 n1, .int .i64 d1]] w fun e w' => e = .returned (.tuple #[.agg #[.int .i64 0, .int .i64 0], .int .i64 1]) ∧ Below w.heap.size w w' := by
  go_enter Tryd.func6, Tryd.ntmps6
  go_wp2_with fail
  refine (specOK_any _ _ _).mono ?_
  rintro e w1 ⟨rfl, hb⟩
  rw [unhide H0]
  have HB := hide hb
  have x00 := keep1 hb (b := w.heap.size) (o := 0) (v := .int .i64 n0) (by simp [go_sem])
  have x01 := keep1 hb (b := w.heap.size) (o := 1) (v := .int .i64 d0) (by simp [go_sem])
  have x10 := keep1 hb (b := w.heap.size + 1) (o := 0) (v := .int .i64 n1) (by simp [go_sem])
  have x11 := keep1 hb (b := w.heap.size + 1) (o := 1) (v := .int .i64 d1) (by simp [go_sem])
  have x20 := keep1 hb (b := w.heap.size + 1 + 1) (o := 0) (v := .int .i64 0) (by simp [go_sem])
  have xf0 := keepz hb (b := w.heap.size + 1 + 1) (o := 0) (by simp) (by simp [go_sem])
  have x21 := keep1 hb (b := w.heap.size + 1 + 1) (o := 1) (v := .int .i64 0) (by simp [go_sem])
  have xf1 := keepz hb (b := w.heap.size + 1 + 1) (o := 1) (by simp) (by simp [go_sem])
  have xl0 := cell_lt x00
  have xl1 := cell_lt x10
  have xl2 := cell_lt x20
  have hzx := hb.size
  clear hb
  go_wp2
  refine bodyPost_ret (v := .tuple #[.agg #[.int .i64 0, .int .i64 0], .int .i64 1]) (by simp [results, Tryd.results6, go_sem, x20, x21]) rfl ⟨rfl, ?_⟩
  repeat (first | exact Below.refl _ _ | refine Below.setCell ?_ (by simp <;> omega) _ | refine bel_alloc ?_ _ | refine bel_call ?_ (unhide HB))

set_option maxHeartbeats 400000 in
theorem specAdd_bad2 (n0 d0 n1 d1 : Int) (w : World) (H0 : Hid (frOk n0 d0 = true)) (H1 : Hid (frOk n1 d1 = false))  :
    Calls Tryd.prog 6 #[.agg #[.int .i64 n0, .int .i64 d0], .agg #[.int .i64 n1, .int .i64 d1]] w fun e w' => e = .returned (.tuple #[.agg #[.int .i64 0, .int .i64 0], .int .i64 1]) ∧ Below w.heap.size w w' := by
  go_enter Tryd.func6, Tryd.ntmps6
  go_wp2_with fail
  refine (specOK_any _ _ _).mono ?_
  rintro e w1 ⟨rfl, hb⟩
  rw [unhide H0]
  have HB := hide hb
  have x00 := keep1 hb (b := w.heap.size) (o := 0) (v := .int .i64 n0) (by simp [go_sem])
  have x01 := keep1 hb (b := w.heap.size) (o := 1) (v := .int .i64 d0) (by simp [go_sem])
  have x10 := keep1 hb (b := w.heap.size + 1) (o := 0) (v := .int .i64 n1) (by simp [go_sem])
  have x11 := keep1 hb (b := w.heap.size + 1) (o := 1) (v := .int .i64 d1) (by simp [go_sem])
  have x20 := keep1 hb (b := w.heap.size + 1 + 1) (o := 0) (v := .int .i64 0) (by simp [go_sem])
  have xf0 := keepz hb (b := w.heap.size + 1 + 1) (o := 0) (by simp) (by simp [go_sem])
  have x21 := keep1 hb (b := w.heap.size + 1 + 1) (o := 1) (v := .int .i64 0) (by simp [go_sem])
  have xf1 := keepz hb (b := w.heap.size + 1 + 1) (o := 1) (by simp) (by simp [go_sem])
  have xl0 := cell_lt x00
  have xl1 := cell_lt x10
  have xl2 := cell_lt x20
  have hzx := hb.size
  clear hb
  go_wp2_with fail
  refine (specOK_any _ _ _).mono ?_
  rintro e w2 ⟨rfl, hb⟩
  rw [unhide H1]
  have HB2 := hide hb
  have y00 := keep1 hb x00
  have y01 := keep1 hb x01
  have y10 := keep1 hb x10
  have y11 := keep1 hb x11
  have y20 := keep1 hb x20
  have yf0 := keepz hb (cell_lt x20) xf0
  have y21 := keep1 hb x21
  have yf1 := keepz hb (cell_lt x21) xf1
  have yl0 := cell_lt y00
  have yl1 := cell_lt y10
  have yl2 := cell_lt y20
  have hzy := hb.size
  clear hb x00 x01 x10 x11 x20 x21 xf0 xf1 xl0 xl1 xl2
  go_wp2
  refine bodyPost_ret (v := .tuple #[.agg #[.int .i64 0, .int .i64 0], .int .i64 1]) (by simp [results, Tryd.results6, go_sem, y20, y21]) rfl ⟨rfl, ?_⟩
  repeat (first | exact Below.refl _ _ | refine Below.setCell ?_ (by simp <;> omega) _ | refine bel_alloc ?_ _ | refine bel_call ?_ (unhide HB2) | refine bel_call ?_ (unhide HB))

set_option maxHeartbeats 400000 in
theorem specAdd_good (n0 d0 n1 d1 X Y C : Int) (w : World) (H0 : Hid (frOk n0 d0 = true)) (H1 : Hid (frOk n1 d1 = true)) 
    (HC : Hid (∀ W, Calls Tryd.prog 17 #[.int .i64 (n0 * d1 + n1 * d0), .int .i64 (d0 * d1)] W fun e w' => e = .returned (.tuple #[.agg #[.int .i64 X, .int .i64 Y], .int .i64 C]) ∧ Below W.heap.size W w')) :
    Calls Tryd.prog 6 #[.agg #[.int .i64 n0, .int .i64 d0], .agg #[.int .i64 n1, .int .i64 d1]] w fun e w' => e = .returned (.tuple #[.agg #[.int .i64 X, .int .i64 Y], .int .i64 C]) ∧ Below w.heap.size w w' := by
  obtain ⟨⟨c1, c2⟩, c3, c4⟩ := ok_bd (unhide H0)
  obtain ⟨⟨e1, e2⟩, e3, e4⟩ := ok_bd (unhide H1)
  have p1 := prod_bd n0 d1 ⟨c1, c2⟩ ⟨by omega, e4⟩
  have p2 := prod_bd n1 d0 ⟨e1, e2⟩ ⟨by omega, c4⟩
  have p3 := prod_bd d0 d1 ⟨by omega, c4⟩ ⟨by omega, e4⟩
  have p4 := prod_bd n0 n1 ⟨c1, c2⟩ ⟨e1, e2⟩
  go_enter Tryd.func6, Tryd.ntmps6
  go_wp2_with fail
  refine (specOK_any _ _ _).mono ?_
  rintro e w1 ⟨rfl, hb⟩
  rw [unhide H0]
  have HB := hide hb
  have x00 := keep1 hb (b := w.heap.size) (o := 0) (v := .int .i64 n0) (by simp [go_sem])
  have x01 := keep1 hb (b := w.heap.size) (o := 1) (v := .int .i64 d0) (by simp [go_sem])
  have x10 := keep1 hb (b := w.heap.size + 1) (o := 0) (v := .int .i64 n1) (by simp [go_sem])
  have x11 := keep1 hb (b := w.heap.size + 1) (o := 1) (v := .int .i64 d1) (by simp [go_sem])
  have x20 := keep1 hb (b := w.heap.size + 1 + 1) (o := 0) (v := .int .i64 0) (by simp [go_sem])
  have xf0 := keepz hb (b := w.heap.size + 1 + 1) (o := 0) (by simp) (by simp [go_sem])
  have x21 := keep1 hb (b := w.heap.size + 1 + 1) (o := 1) (v := .int .i64 0) (by simp [go_sem])
  have xf1 := keepz hb (b := w.heap.size + 1 + 1) (o := 1) (by simp) (by simp [go_sem])
  have xl0 := cell_lt x00
  have xl1 := cell_lt x10
  have xl2 := cell_lt x20
  have hzx := hb.size
  clear hb
  go_wp2_with fail
  refine (specOK_any _ _ _).mono ?_
  rintro e w2 ⟨rfl, hb⟩
  rw [unhide H1]
  have HB2 := hide hb
  have y00 := keep1 hb x00
  have y01 := keep1 hb x01
  have y10 := keep1 hb x10
  have y11 := keep1 hb x11
  have y20 := keep1 hb x20
  have yf0 := keepz hb (cell_lt x20) xf0
  have y21 := keep1 hb x21
  have yf1 := keepz hb (cell_lt x21) xf1
  have yl0 := cell_lt y00
  have yl1 := cell_lt y10
  have yl2 := cell_lt y20
  have hzy := hb.size
  clear hb x00 x01 x10 x11 x20 x21 xf0 xf1 xl0 xl1 xl2
  go_wp2_with fail
  refine (unhide HC _).mono ?_
  rintro e w3 ⟨rfl, hb⟩
  have HB3 := hide hb
  have z00 := keep1 hb y00
  have z01 := keep1 hb y01
  have z10 := keep1 hb y10
  have z11 := keep1 hb y11
  have z20 := keep1 hb y20
  have zf0 := keepz hb (cell_lt y20) yf0
  have z21 := keep1 hb y21
  have zf1 := keepz hb (cell_lt y21) yf1
  have zl0 := cell_lt z00
  have zl1 := cell_lt z10
  have zl2 := cell_lt z20
  have hzz := hb.size
  clear hb y00 y01 y10 y11 y20 y21 yf0 yf1 yl0 yl1 yl2
  go_wp2
  refine bodyPost_ret (v := .tuple #[.agg #[.int .i64 X, .int .i64 Y], .int .i64 C]) (by simp [results, Tryd.results6, go_sem, z20, z21]) rfl ⟨rfl, ?_⟩
  repeat (first | exact Below.refl _ _ | refine Below.setCell ?_ (by simp <;> omega) _ | refine bel_alloc ?_ _ | refine bel_call ?_ (unhide HB3) | refine bel_call ?_ (unhide HB2) | refine bel_call ?_ (unhide HB))

theorem specAdd_any (n0 d0 n1 d1 : Int) (w : World) (a1 : -9223372036854775808 ≤ n0) (a2 : n0 ≤ 9223372036854775807) (a3 : -9223372036854775808 ≤ d0) (a4 : d0 ≤ 9223372036854775807) (b1 : -9223372036854775808 ≤ n1) (b2 : n1 ≤ 9223372036854775807) (b3 : -9223372036854775808 ≤ d1) (b4 : d1 ≤ 9223372036854775807) :
    Calls Tryd.prog 6 #[.agg #[.int .i64 n0, .int .i64 d0], .agg #[.int .i64 n1, .int .i64 d1]] w fun e w' => e = .returned (pairAns n0 d0 n1 d1 (n0 * d1 + n1 * d0) (d0 * d1)) ∧ Below w.heap.size w w' := by
  unfold pairAns
  by_cases h0 : frOk n0 d0 = true
  · by_cases h1 : frOk n1 d1 = true
    · rw [if_pos ⟨h0, h1⟩]
      obtain ⟨⟨c1, c2⟩, c3, c4⟩ := ok_bd h0
      obtain ⟨⟨e1, e2⟩, e3, e4⟩ := ok_bd h1
      have p1 := prod_bd n0 d1 ⟨c1, c2⟩ ⟨by omega, e4⟩
      have p2 := prod_bd n1 d0 ⟨e1, e2⟩ ⟨by omega, c4⟩
      have p3 := prod_bd d0 d1 ⟨by omega, c4⟩ ⟨by omega, e4⟩
      have p4 := prod_bd n0 n1 ⟨c1, c2⟩ ⟨e1, e2⟩
      exact specAdd_good n0 d0 n1 d1 _ _ _ w (hide h0) (hide h1)  (hide fun W => specOf_any _ _ W (by omega) (by omega) (by omega) (by omega))
    · rw [if_neg (fun h => h1 h.2)]
      exact specAdd_bad2 n0 d0 n1 d1 w (hide h0) (hide (by simpa using h1)) 
  · rw [if_neg (fun h => h0 h.1)]
    exact specAdd_bad1 n0 d0 n1 d1 w (hide (by simpa using h0))

set_option maxHeartbeats 400000 in
theorem implAdd_bad1 (n0 d0 n1 d1 : Int) (w : World) (H0 : Hid (frOk n0 d0 = false)) (a1 : -9223372036854775808 ≤ n0) (a2 : n0 ≤ 9223372036854775807) (a3 : -9223372036854775808 ≤ d0) (a4 : d0 ≤ 9223372036854775807) (b1 : -9223372036854775808 ≤ n1) (b2 : n1 ≤ 9223372036854775807) (b3 : -9223372036854775808 ≤ d1) (b4 : d1 ≤ 9223372036854775807) :
    Calls Tryd.prog 5 #[.agg #[.int .i64 n0, .int .i64 d0], .agg #[.int .i64 n1, .int .i64 d1]] w fun e w' => e = .returned (.tuple #[.agg #[.int .i64 0, .int .i64 0], .int .i64 1]) ∧ Below w.heap.size w w' := by
  go_enter Tryd.func5, Tryd.ntmps5
  go_wp2_with fail
  refine (implOK_any _ _ _ a1 a2 a3 a4).mono ?_
  rintro e w1 ⟨rfl, hb⟩
  rw [unhide H0]
  have HB := hide hb
  have x00 := keep1 hb (b := w.heap.size) (o := 0) (v := .int .i64 n0) (by simp [go_sem])
  have x01 := keep1 hb (b := w.heap.size) (o := 1) (v := .int .i64 d0) (by simp [go_sem])
  have x10 := keep1 hb (b := w.heap.size + 1) (o := 0) (v := .int .i64 n1) (by simp [go_sem])
  have x11 := keep1 hb (b := w.heap.size + 1) (o := 1) (v := .int .i64 d1) (by simp [go_sem])
  have x20 := keep1 hb (b := w.heap.size + 1 + 1) (o := 0) (v := .int .i64 0) (by simp [go_sem])
  have xf0 := keepz hb (b := w.heap.size + 1 + 1) (o := 0) (by simp) (by simp [go_sem])
  have x21 := keep1 hb (b := w.heap.size + 1 + 1) (o := 1) (v := .int .i64 0) (by simp [go_sem])
  have xf1 := keepz hb (b := w.heap.size + 1 + 1) (o := 1) (by simp) (by simp [go_sem])
  have xl0 := cell_lt x00
  have xl1 := cell_lt x10
  have xl2 := cell_lt x20
  have hzx := hb.size
  clear hb
  go_wp2
  refine bodyPost_ret (v := .tuple #[.agg #[.int .i64 0, .int .i64 0], .int .i64 1]) (by simp [results, Tryd.results5, go_sem, x20, x21]) rfl ⟨rfl, ?_⟩
  repeat (first | exact Below.refl _ _ | refine Below.setCell ?_ (by simp <;> omega) _ | refine bel_alloc ?_ _ | refine bel_call ?_ (unhide HB))

set_option maxHeartbeats 400000 in
theorem implAdd_bad2 (n0 d0 n1 d1 : Int) (w : World) (H0 : Hid (frOk n0 d0 = true)) (H1 : Hid (frOk n1 d1 = false)) (a1 : -9223372036854775808 ≤ n0) (a2 : n0 ≤ 9223372036854775807) (a3 : -9223372036854775808 ≤ d0) (a4 : d0 ≤ 9223372036854775807) (b1 : -9223372036854775808 ≤ n1) (b2 : n1 ≤ 9223372036854775807) (b3 : -9223372036854775808 ≤ d1) (b4 : d1 ≤ 9223372036854775807) :
    Calls Tryd.prog 5 #[.agg #[.int .i64 n0, .int .i64 d0], .agg #[.int .i64 n1, .int .i64 d1]] w fun e w' => e = .returned (.tuple #[.agg #[.int .i64 0, .int .i64 0], .int .i64 1]) ∧ Below w.heap.size w w' := by
  go_enter Tryd.func5, Tryd.ntmps5
  go_wp2_with fail
  refine (implOK_any _ _ _ a1 a2 a3 a4).mono ?_
  rintro e w1 ⟨rfl, hb⟩
  rw [unhide H0]
  have HB := hide hb
  have x00 := keep1 hb (b := w.heap.size) (o := 0) (v := .int .i64 n0) (by simp [go_sem])
  have x01 := keep1 hb (b := w.heap.size) (o := 1) (v := .int .i64 d0) (by simp [go_sem])
  have x10 := keep1 hb (b := w.heap.size + 1) (o := 0) (v := .int .i64 n1) (by simp [go_sem])
  have x11 := keep1 hb (b := w.heap.size + 1) (o := 1) (v := .int .i64 d1) (by simp [go_sem])
  have x20 := keep1 hb (b := w.heap.size + 1 + 1) (o := 0) (v := .int .i64 0) (by simp [go_sem])
  have xf0 := keepz hb (b := w.heap.size + 1 + 1) (o := 0) (by simp) (by simp [go_sem])
  have x21 := keep1 hb (b := w.heap.size + 1 + 1) (o := 1) (v := .int .i64 0) (by simp [go_sem])
  have xf1 := keepz hb (b := w.heap.size + 1 + 1) (o := 1) (by simp) (by simp [go_sem])
  have xl0 := cell_lt x00
  have xl1 := cell_lt x10
  have xl2 := cell_lt x20
  have hzx := hb.size
  clear hb
  go_wp2_with fail
  refine (implOK_any _ _ _ b1 b2 b3 b4).mono ?_
  rintro e w2 ⟨rfl, hb⟩
  rw [unhide H1]
  have HB2 := hide hb
  have y00 := keep1 hb x00
  have y01 := keep1 hb x01
  have y10 := keep1 hb x10
  have y11 := keep1 hb x11
  have y20 := keep1 hb x20
  have yf0 := keepz hb (cell_lt x20) xf0
  have y21 := keep1 hb x21
  have yf1 := keepz hb (cell_lt x21) xf1
  have yl0 := cell_lt y00
  have yl1 := cell_lt y10
  have yl2 := cell_lt y20
  have hzy := hb.size
  clear hb x00 x01 x10 x11 x20 x21 xf0 xf1 xl0 xl1 xl2
  go_wp2
  refine bodyPost_ret (v := .tuple #[.agg #[.int .i64 0, .int .i64 0], .int .i64 1]) (by simp [results, Tryd.results5, go_sem, y20, y21]) rfl ⟨rfl, ?_⟩
  repeat (first | exact Below.refl _ _ | refine Below.setCell ?_ (by simp <;> omega) _ | refine bel_alloc ?_ _ | refine bel_call ?_ (unhide HB2) | refine bel_call ?_ (unhide HB))

set_option maxHeartbeats 400000 in
theorem implAdd_good (n0 d0 n1 d1 X Y C : Int) (w : World) (H0 : Hid (frOk n0 d0 = true)) (H1 : Hid (frOk n1 d1 = true)) (a1 : -9223372036854775808 ≤ n0) (a2 : n0 ≤ 9223372036854775807) (a3 : -9223372036854775808 ≤ d0) (a4 : d0 ≤ 9223372036854775807) (b1 : -9223372036854775808 ≤ n1) (b2 : n1 ≤ 9223372036854775807) (b3 : -9223372036854775808 ≤ d1) (b4 : d1 ≤ 9223372036854775807)
    (HC : Hid (∀ W, Calls Tryd.prog 15 #[.int .i64 (n0 * d1 + n1 * d0), .int .i64 (d0 * d1)] W fun e w' => e = .returned (.tuple #[.agg #[.int .i64 X, .int .i64 Y], .int .i64 C]) ∧ Below W.heap.size W w')) :
    Calls Tryd.prog 5 #[.agg #[.int .i64 n0, .int .i64 d0], .agg #[.int .i64 n1, .int .i64 d1]] w fun e w' => e = .returned (.tuple #[.agg #[.int .i64 X, .int .i64 Y], .int .i64 C]) ∧ Below w.heap.size w w' := by
  obtain ⟨⟨c1, c2⟩, c3, c4⟩ := ok_bd (unhide H0)
  obtain ⟨⟨e1, e2⟩, e3, e4⟩ := ok_bd (unhide H1)
  have p1 := prod_bd n0 d1 ⟨c1, c2⟩ ⟨by omega, e4⟩
  have p2 := prod_bd n1 d0 ⟨e1, e2⟩ ⟨by omega, c4⟩
  have p3 := prod_bd d0 d1 ⟨by omega, c4⟩ ⟨by omega, e4⟩
  have p4 := prod_bd n0 n1 ⟨c1, c2⟩ ⟨e1, e2⟩
  go_enter Tryd.func5, Tryd.ntmps5
  go_wp2_with fail
  refine (implOK_any _ _ _ a1 a2 a3 a4).mono ?_
  rintro e w1 ⟨rfl, hb⟩
  rw [unhide H0]
  have HB := hide hb
  have x00 := keep1 hb (b := w.heap.size) (o := 0) (v := .int .i64 n0) (by simp [go_sem])
  have x01 := keep1 hb (b := w.heap.size) (o := 1) (v := .int .i64 d0) (by simp [go_sem])
  have x10 := keep1 hb (b := w.heap.size + 1) (o := 0) (v := .int .i64 n1) (by simp [go_sem])
  have x11 := keep1 hb (b := w.heap.size + 1) (o := 1) (v := .int .i64 d1) (by simp [go_sem])
  have x20 := keep1 hb (b := w.heap.size + 1 + 1) (o := 0) (v := .int .i64 0) (by simp [go_sem])
  have xf0 := keepz hb (b := w.heap.size + 1 + 1) (o := 0) (by simp) (by simp [go_sem])
  have x21 := keep1 hb (b := w.heap.size + 1 + 1) (o := 1) (v := .int .i64 0) (by simp [go_sem])
  have xf1 := keepz hb (b := w.heap.size + 1 + 1) (o := 1) (by simp) (by simp [go_sem])
  have xl0 := cell_lt x00
  have xl1 := cell_lt x10
  have xl2 := cell_lt x20
  have hzx := hb.size
  clear hb
  go_wp2_with fail
  refine (implOK_any _ _ _ b1 b2 b3 b4).mono ?_
  rintro e w2 ⟨rfl, hb⟩
  rw [unhide H1]
  have HB2 := hide hb
  have y00 := keep1 hb x00
  have y01 := keep1 hb x01
  have y10 := keep1 hb x10
  have y11 := keep1 hb x11
  have y20 := keep1 hb x20
  have yf0 := keepz hb (cell_lt x20) xf0
  have y21 := keep1 hb x21
  have yf1 := keepz hb (cell_lt x21) xf1
  have yl0 := cell_lt y00
  have yl1 := cell_lt y10
  have yl2 := cell_lt y20
  have hzy := hb.size
  clear hb x00 x01 x10 x11 x20 x21 xf0 xf1 xl0 xl1 xl2
  go_wp2_with fail
  refine (unhide HC _).mono ?_
  rintro e w3 ⟨rfl, hb⟩
  have HB3 := hide hb
  have z00 := keep1 hb y00
  have z01 := keep1 hb y01
  have z10 := keep1 hb y10
  have z11 := keep1 hb y11
  have z20 := keep1 hb y20
  have zf0 := keepz hb (cell_lt y20) yf0
  have z21 := keep1 hb y21
  have zf1 := keepz hb (cell_lt y21) yf1
  have zl0 := cell_lt z00
  have zl1 := cell_lt z10
  have zl2 := cell_lt z20
  have hzz := hb.size
  clear hb y00 y01 y10 y11 y20 y21 yf0 yf1 yl0 yl1 yl2
  go_wp2
  refine bodyPost_ret (v := .tuple #[.agg #[.int .i64 X, .int .i64 Y], .int .i64 C]) (by simp [results, Tryd.results5, go_sem, z20, z21]) rfl ⟨rfl, ?_⟩
  repeat (first | exact Below.refl _ _ | refine Below.setCell ?_ (by simp <;> omega) _ | refine bel_alloc ?_ _ | refine bel_call ?_ (unhide HB3) | refine bel_call ?_ (unhide HB2) | refine bel_call ?_ (unhide HB))

theorem implAdd_any (n0 d0 n1 d1 : Int) (w : World) (a1 : -9223372036854775808 ≤ n0) (a2 : n0 ≤ 9223372036854775807) (a3 : -9223372036854775808 ≤ d0) (a4 : d0 ≤ 9223372036854775807) (b1 : -9223372036854775808 ≤ n1) (b2 : n1 ≤ 9223372036854775807) (b3 : -9223372036854775808 ≤ d1) (b4 : d1 ≤ 9223372036854775807) :
    Calls Tryd.prog 5 #[.agg #[.int .i64 n0, .int .i64 d0], .agg #[.int .i64 n1, .int .i64 d1]] w fun e w' => e = .returned (pairAns n0 d0 n1 d1 (n0 * d1 + n1 * d0) (d0 * d1)) ∧ Below w.heap.size w w' := by
  unfold pairAns
  by_cases h0 : frOk n0 d0 = true
  · by_cases h1 : frOk n1 d1 = true
    · rw [if_pos ⟨h0, h1⟩]
      obtain ⟨⟨c1, c2⟩, c3, c4⟩ := ok_bd h0
      obtain ⟨⟨e1, e2⟩, e3, e4⟩ := ok_bd h1
      have p1 := prod_bd n0 d1 ⟨c1, c2⟩ ⟨by omega, e4⟩
      have p2 := prod_bd n1 d0 ⟨e1, e2⟩ ⟨by omega, c4⟩
      have p3 := prod_bd d0 d1 ⟨by omega, c4⟩ ⟨by omega, e4⟩
      have p4 := prod_bd n0 n1 ⟨c1, c2⟩ ⟨e1, e2⟩
      exact implAdd_good n0 d0 n1 d1 _ _ _ w (hide h0) (hide h1) a1 a2 a3 a4 b1 b2 b3 b4 (hide fun W => implOf_any _ _ W (by omega) (by omega) (by omega) (by omega))
    · rw [if_neg (fun h => h1 h.2)]
      exact implAdd_bad2 n0 d0 n1 d1 w (hide h0) (hide (by simpa using h1)) a1 a2 a3 a4 b1 b2 b3 b4
  · rw [if_neg (fun h => h0 h.1)]
    exact implAdd_bad1 n0 d0 n1 d1 w (hide (by simpa using h0)) a1 a2 a3 a4 b1 b2 b3 b4

set_option maxHeartbeats 400000 in
theorem specMul_bad1 (n0 d0 n1 d1 : Int) (w : World) (H0 : Hid (frOk n0 d0 = false))  :
    Calls Tryd.prog 8 #[.agg #[.int .i64 n0, .int .i64 d0], .agg #[.int .i64 n1, .int .i64 d1]] w fun e w' => e = .returned (.tuple #[.agg #[.int .i64 0, .int .i64 0], .int .i64 1]) ∧ Below w.heap.size w w' := by
  go_enter Tryd.func8, Tryd.ntmps8
  go_wp2_with fail
  refine (specOK_any _ _ _).mono ?_
  rintro e w1 ⟨rfl, hb⟩
  rw [unhide H0]
  have HB := hide hb
  have x00 := keep1 hb (b := w.heap.size) (o := 0) (v := .int .i64 n0) (by simp [go_sem])
  have x01 := keep1 hb (b := w.heap.size) (o := 1) (v := .int .i64 d0) (by simp [go_sem])
  have x10 := keep1 hb (b := w.heap.size + 1) (o := 0) (v := .int .i64 n1) (by simp [go_sem])
  have x11 := keep1 hb (b := w.heap.size + 1) (o := 1) (v := .int .i64 d1) (by simp [go_sem])
  have x20 := keep1 hb (b := w.heap.size + 1 + 1) (o := 0) (v := .int .i64 0) (by simp [go_sem])
  have xf0 := keepz hb (b := w.heap.size + 1 + 1) (o := 0) (by simp) (by simp [go_sem])
  have x21 := keep1 hb (b := w.heap.size + 1 + 1) (o := 1) (v := .int .i64 0) (by simp [go_sem])
  have xf1 := keepz hb (b := w.heap.size + 1 + 1) (o := 1) (by simp) (by simp [go_sem])
  have xl0 := cell_lt x00
  have xl1 := cell_lt x10
  have xl2 := cell_lt x20
  have hzx := hb.size
  clear hb
  go_wp2
  refine bodyPost_ret (v := .tuple #[.agg #[.int .i64 0, .int .i64 0], .int .i64 1]) (by simp [results, Tryd.results8, go_sem, x20, x21]) rfl ⟨rfl, ?_⟩
  repeat (first | exact Below.refl _ _ | refine Below.setCell ?_ (by simp <;> omega) _ | refine bel_alloc ?_ _ | refine bel_call ?_ (unhide HB))

set_option maxHeartbeats 400000 in
theorem specMul_bad2 (n0 d0 n1 d1 : Int) (w : World) (H0 : Hid (frOk n0 d0 = true)) (H1 : Hid (frOk n1 d1 = false))  :
    Calls Tryd.prog 8 #[.agg #[.int .i64 n0, .int .i64 d0], .agg #[.int .i64 n1, .int .i64 d1]] w fun e w' => e = .returned (.tuple #[.agg #[.int .i64 0, .int .i64 0], .int .i64 1]) ∧ Below w.heap.size w w' := by
  go_enter Tryd.func8, Tryd.ntmps8
  go_wp2_with fail
  refine (specOK_any _ _ _).mono ?_
  rintro e w1 ⟨rfl, hb⟩
  rw [unhide H0]
  have HB := hide hb
  have x00 := keep1 hb (b := w.heap.size) (o := 0) (v := .int .i64 n0) (by simp [go_sem])
  have x01 := keep1 hb (b := w.heap.size) (o := 1) (v := .int .i64 d0) (by simp [go_sem])
  have x10 := keep1 hb (b := w.heap.size + 1) (o := 0) (v := .int .i64 n1) (by simp [go_sem])
  have x11 := keep1 hb (b := w.heap.size + 1) (o := 1) (v := .int .i64 d1) (by simp [go_sem])
  have x20 := keep1 hb (b := w.heap.size + 1 + 1) (o := 0) (v := .int .i64 0) (by simp [go_sem])
  have xf0 := keepz hb (b := w.heap.size + 1 + 1) (o := 0) (by simp) (by simp [go_sem])
  have x21 := keep1 hb (b := w.heap.size + 1 + 1) (o := 1) (v := .int .i64 0) (by simp [go_sem])
  have xf1 := keepz hb (b := w.heap.size + 1 + 1) (o := 1) (by simp) (by simp [go_sem])
  have xl0 := cell_lt x00
  have xl1 := cell_lt x10
  have xl2 := cell_lt x20
  have hzx := hb.size
  clear hb
  go_wp2_with fail
  refine (specOK_any _ _ _).mono ?_
  rintro e w2 ⟨rfl, hb⟩
  rw [unhide H1]
  have HB2 := hide hb
  have y00 := keep1 hb x00
  have y01 := keep1 hb x01
  have y10 := keep1 hb x10
  have y11 := keep1 hb x11
  have y20 := keep1 hb x20
  have yf0 := keepz hb (cell_lt x20) xf0
  have y21 := keep1 hb x21
  have yf1 := keepz hb (cell_lt x21) xf1
  have yl0 := cell_lt y00
  have yl1 := cell_lt y10
  have yl2 := cell_lt y20
  have hzy := hb.size
  clear hb x00 x01 x10 x11 x20 x21 xf0 xf1 xl0 xl1 xl2
  go_wp2
  refine bodyPost_ret (v := .tuple #[.agg #[.int .i64 0, .int .i64 0], .int .i64 1]) (by simp [results, Tryd.results8, go_sem, y20, y21]) rfl ⟨rfl, ?_⟩
  repeat (first | exact Below.refl _ _ | refine Below.setCell ?_ (by simp <;> omega) _ | refine bel_alloc ?_ _ | refine bel_call ?_ (unhide HB2) | refine bel_call ?_ (unhide HB))

set_option maxHeartbeats 400000 in
theorem specMul_good (n0 d0 n1 d1 X Y C : Int) (w : World) (H0 : Hid (frOk n0 d0 = true)) (H1 : Hid (frOk n1 d1 = true)) 
    (HC : Hid (∀ W, Calls Tryd.prog 17 #[.int .i64 (n0 * n1), .int .i64 (d0 * d1)] W fun e w' => e = .returned (.tuple #[.agg #[.int .i64 X, .int .i64 Y], .int .i64 C]) ∧ Below W.heap.size W w')) :
    Calls Tryd.prog 8 #[.agg #[.int .i64 n0, .int .i64 d0], .agg #[.int .i64 n1, .int .i64 d1]] w fun e w' => e = .returned (.tuple #[.agg #[.int .i64 X, .int .i64 Y], .int .i64 C]) ∧ Below w.heap.size w w' := by
  obtain ⟨⟨c1, c2⟩, c3, c4⟩ := ok_bd (unhide H0)
  obtain ⟨⟨e1, e2⟩, e3, e4⟩ := ok_bd (unhide H1)
  have p1 := prod_bd n0 d1 ⟨c1, c2⟩ ⟨by omega, e4⟩
  have p2 := prod_bd n1 d0 ⟨e1, e2⟩ ⟨by omega, c4⟩
  have p3 := prod_bd d0 d1 ⟨by omega, c4⟩ ⟨by omega, e4⟩
  have p4 := prod_bd n0 n1 ⟨c1, c2⟩ ⟨e1, e2⟩
  go_enter Tryd.func8, Tryd.ntmps8
  go_wp2_with fail
  refine (specOK_any _ _ _).mono ?_
  rintro e w1 ⟨rfl, hb⟩
  rw [unhide H0]
  have HB := hide hb
  have x00 := keep1 hb (b := w.heap.size) (o := 0) (v := .int .i64 n0) (by simp [go_sem])
  have x01 := keep1 hb (b := w.heap.size) (o := 1) (v := .int .i64 d0) (by simp [go_sem])
  have x10 := keep1 hb (b := w.heap.size + 1) (o := 0) (v := .int .i64 n1) (by simp [go_sem])
  have x11 := keep1 hb (b := w.heap.size + 1) (o := 1) (v := .int .i64 d1) (by simp [go_sem])
  have x20 := keep1 hb (b := w.heap.size + 1 + 1) (o := 0) (v := .int .i64 0) (by simp [go_sem])
  have xf0 := keepz hb (b := w.heap.size + 1 + 1) (o := 0) (by simp) (by simp [go_sem])
  have x21 := keep1 hb (b := w.heap.size + 1 + 1) (o := 1) (v := .int .i64 0) (by simp [go_sem])
  have xf1 := keepz hb (b := w.heap.size + 1 + 1) (o := 1) (by simp) (by simp [go_sem])
  have xl0 := cell_lt x00
  have xl1 := cell_lt x10
  have xl2 := cell_lt x20
  have hzx := hb.size
  clear hb
  go_wp2_with fail
  refine (specOK_any _ _ _).mono ?_
  rintro e w2 ⟨rfl, hb⟩
  rw [unhide H1]
  have HB2 := hide hb
  have y00 := keep1 hb x00
  have y01 := keep1 hb x01
  have y10 := keep1 hb x10
  have y11 := keep1 hb x11
  have y20 := keep1 hb x20
  have yf0 := keepz hb (cell_lt x20) xf0
  have y21 := keep1 hb x21
  have yf1 := keepz hb (cell_lt x21) xf1
  have yl0 := cell_lt y00
  have yl1 := cell_lt y10
  have yl2 := cell_lt y20
  have hzy := hb.size
  clear hb x00 x01 x10 x11 x20 x21 xf0 xf1 xl0 xl1 xl2
  go_wp2_with fail
  refine (unhide HC _).mono ?_
  rintro e w3 ⟨rfl, hb⟩
  have HB3 := hide hb
  have z00 := keep1 hb y00
  have z01 := keep1 hb y01
  have z10 := keep1 hb y10
  have z11 := keep1 hb y11
  have z20 := keep1 hb y20
  have zf0 := keepz hb (cell_lt y20) yf0
  have z21 := keep1 hb y21
  have zf1 := keepz hb (cell_lt y21) yf1
  have zl0 := cell_lt z00
  have zl1 := cell_lt z10
  have zl2 := cell_lt z20
  have hzz := hb.size
  clear hb y00 y01 y10 y11 y20 y21 yf0 yf1 yl0 yl1 yl2
  go_wp2
  refine bodyPost_ret (v := .tuple #[.agg #[.int .i64 X, .int .i64 Y], .int .i64 C]) (by simp [results, Tryd.results8, go_sem, z20, z21]) rfl ⟨rfl, ?_⟩
  repeat (first | exact Below.refl _ _ | refine Below.setCell ?_ (by simp <;> omega) _ | refine bel_alloc ?_ _ | refine bel_call ?_ (unhide HB3) | refine bel_call ?_ (unhide HB2) | refine bel_call ?_ (unhide HB))

theorem specMul_any (n0 d0 n1 d1 : Int) (w : World) (a1 : -9223372036854775808 ≤ n0) (a2 : n0 ≤ 9223372036854775807) (a3 : -9223372036854775808 ≤ d0) (a4 : d0 ≤ 9223372036854775807) (b1 : -9223372036854775808 ≤ n1) (b2 : n1 ≤ 9223372036854775807) (b3 : -9223372036854775808 ≤ d1) (b4 : d1 ≤ 9223372036854775807) :
    Calls Tryd.prog 8 #[.agg #[.int .i64 n0, .int .i64 d0], .agg #[.int .i64 n1, .int .i64 d1]] w fun e w' => e = .returned (pairAns n0 d0 n1 d1 (n0 * n1) (d0 * d1)) ∧ Below w.heap.size w w' := by
  unfold pairAns
  by_cases h0 : frOk n0 d0 = true
  · by_cases h1 : frOk n1 d1 = true
    · rw [if_pos ⟨h0, h1⟩]
      obtain ⟨⟨c1, c2⟩, c3, c4⟩ := ok_bd h0
      obtain ⟨⟨e1, e2⟩, e3, e4⟩ := ok_bd h1
      have p1 := prod_bd n0 d1 ⟨c1, c2⟩ ⟨by omega, e4⟩
      have p2 := prod_bd n1 d0 ⟨e1, e2⟩ ⟨by omega, c4⟩
      have p3 := prod_bd d0 d1 ⟨by omega, c4⟩ ⟨by omega, e4⟩
      have p4 := prod_bd n0 n1 ⟨c1, c2⟩ ⟨e1, e2⟩
      exact specMul_good n0 d0 n1 d1 _ _ _ w (hide h0) (hide h1)  (hide fun W => specOf_any _ _ W (by omega) (by omega) (by omega) (by omega))
    · rw [if_neg (fun h => h1 h.2)]
      exact specMul_bad2 n0 d0 n1 d1 w (hide h0) (hide (by simpa using h1)) 
  · rw [if_neg (fun h => h0 h.1)]
    exact specMul_bad1 n0 d0 n1 d1 w (hide (by simpa using h0))

set_option maxHeartbeats 400000 in
theorem implMul_bad1 (n0 d0 n1 d1 : Int) (w : World) (H0 : Hid (frOk n0 d0 = false)) (a1 : -9223372036854775808 ≤ n0) (a2 : n0 ≤ 9223372036854775807) (a3 : -9223372036854775808 ≤ d0) (a4 : d0 ≤ 9223372036854775807) (b1 : -9223372036854775808 ≤ n1) (b2 : n1 ≤ 9223372036854775807) (b3 : -9223372036854775808 ≤ d1) (b4 : d1 ≤ 9223372036854775807) :
    Calls Tryd.prog 7 #[.agg #[.int .i64 n0, .int .i64 d0], .agg #[.int .i64 n1, .int .i64 d1]] w fun e w' => e = .returned (.tuple #[.agg #[.int .i64 0, .int .i64 0], .int .i64 1]) ∧ Below w.heap.size w w' := by
  go_enter Tryd.func7, Tryd.ntmps7
  go_wp2_with fail
  refine (implOK_any _ _ _ a1 a2 a3 a4).mono ?_
  rintro e w1 ⟨rfl, hb⟩
  rw [unhide H0]
  have HB := hide hb
  have x00 := keep1 hb (b := w.heap.size) (o := 0) (v := .int .i64 n0) (by simp [go_sem])
  have x01 := keep1 hb (b := w.heap.size) (o := 1) (v := .int .i64 d0) (by simp [go_sem])
  have x10 := keep1 hb (b := w.heap.size + 1) (o := 0) (v := .int .i64 n1) (by simp [go_sem])
  have x11 := keep1 hb (b := w.heap.size + 1) (o := 1) (v := .int .i64 d1) (by simp [go_sem])
  have x20 := keep1 hb (b := w.heap.size + 1 + 1) (o := 0) (v := .int .i64 0) (by simp [go_sem])
  have xf0 := keepz hb (b := w.heap.size + 1 + 1) (o := 0) (by simp) (by simp [go_sem])
  have x21 := keep1 hb (b := w.heap.size + 1 + 1) (o := 1) (v := .int .i64 0) (by simp [go_sem])
  have xf1 := keepz hb (b := w.heap.size + 1 + 1) (o := 1) (by simp) (by simp [go_sem])
  have xl0 := cell_lt x00
  have xl1 := cell_lt x10
  have xl2 := cell_lt x20
  have hzx := hb.size
  clear hb
  go_wp2
  refine bodyPost_ret (v := .tuple #[.agg #[.int .i64 0, .int .i64 0], .int .i64 1]) (by simp [results, Tryd.results7, go_sem, x20, x21]) rfl ⟨rfl, ?_⟩
  repeat (first | exact Below.refl _ _ | refine Below.setCell ?_ (by simp <;> omega) _ | refine bel_alloc ?_ _ | refine bel_call ?_ (unhide HB))

set_option maxHeartbeats 400000 in
theorem implMul_bad2 (n0 d0 n1 d1 : Int) (w : World) (H0 : Hid (frOk n0 d0 = true)) (H1 : Hid (frOk n1 d1 = false)) (a1 : -9223372036854775808 ≤ n0) (a2 : n0 ≤ 9223372036854775807) (a3 : -9223372036854775808 ≤ d0) (a4 : d0 ≤ 9223372036854775807) (b1 : -9223372036854775808 ≤ n1) (b2 : n1 ≤ 9223372036854775807) (b3 : -9223372036854775808 ≤ d1) (b4 : d1 ≤ 9223372036854775807) :
    Calls Tryd.prog 7 #[.agg #[.int .i64 n0, .int .i64 d0], .agg #[.int .i64 n1, .int .i64 d1]] w fun e w' => e = .returned (.tuple #[.agg #[.int .i64 0, .int .i64 0], .int .i64 1]) ∧ Below w.heap.size w w' := by
  go_enter Tryd.func7, Tryd.ntmps7
  go_wp2_with fail
  refine (implOK_any _ _ _ a1 a2 a3 a4).mono ?_
  rintro e w1 ⟨rfl, hb⟩
  rw [unhide H0]
  have HB := hide hb
  have x00 := keep1 hb (b := w.heap.size) (o := 0) (v := .int .i64 n0) (by simp [go_sem])
  have x01 := keep1 hb (b := w.heap.size) (o := 1) (v := .int .i64 d0) (by simp [go_sem])
  have x10 := keep1 hb (b := w.heap.size + 1) (o := 0) (v := .int .i64 n1) (by simp [go_sem])
  have x11 := keep1 hb (b := w.heap.size + 1) (o := 1) (v := .int .i64 d1) (by simp [go_sem])
  have x20 := keep1 hb (b := w.heap.size + 1 + 1) (o := 0) (v := .int .i64 0) (by simp [go_sem])
  have xf0 := keepz hb (b := w.heap.size + 1 + 1) (o := 0) (by simp) (by simp [go_sem])
  have x21 := keep1 hb (b := w.heap.size + 1 + 1) (o := 1) (v := .int .i64 0) (by simp [go_sem])
  have xf1 := keepz hb (b := w.heap.size + 1 + 1) (o := 1) (by simp) (by simp [go_sem])
  have xl0 := cell_lt x00
  have xl1 := cell_lt x10
  have xl2 := cell_lt x20
  have hzx := hb.size
  clear hb
  go_wp2_with fail
  refine (implOK_any _ _ _ b1 b2 b3 b4).mono ?_
  rintro e w2 ⟨rfl, hb⟩
  rw [unhide H1]
  have HB2 := hide hb
  have y00 := keep1 hb x00
  have y01 := keep1 hb x01
  have y10 := keep1 hb x10
  have y11 := keep1 hb x11
  have y20 := keep1 hb x20
  have yf0 := keepz hb (cell_lt x20) xf0
  have y21 := keep1 hb x21
  have yf1 := keepz hb (cell_lt x21) xf1
  have yl0 := cell_lt y00
  have yl1 := cell_lt y10
  have yl2 := cell_lt y20
  have hzy := hb.size
  clear hb x00 x01 x10 x11 x20 x21 xf0 xf1 xl0 xl1 xl2
  go_wp2
  refine bodyPost_ret (v := .tuple #[.agg #[.int .i64 0, .int .i64 0], .int .i64 1]) (by simp [results, Tryd.results7, go_sem, y20, y21]) rfl ⟨rfl, ?_⟩
  repeat (first | exact Below.refl _ _ | refine Below.setCell ?_ (by simp <;> omega) _ | refine bel_alloc ?_ _ | refine bel_call ?_ (unhide HB2) | refine bel_call ?_ (unhide HB))

set_option maxHeartbeats 400000 in
theorem implMul_good (n0 d0 n1 d1 X Y C : Int) (w : World) (H0 : Hid (frOk n0 d0 = true)) (H1 : Hid (frOk n1 d1 = true)) (a1 : -9223372036854775808 ≤ n0) (a2 : n0 ≤ 9223372036854775807) (a3 : -9223372036854775808 ≤ d0) (a4 : d0 ≤ 9223372036854775807) (b1 : -9223372036854775808 ≤ n1) (b2 : n1 ≤ 9223372036854775807) (b3 : -9223372036854775808 ≤ d1) (b4 : d1 ≤ 9223372036854775807)
    (HC : Hid (∀ W, Calls Tryd.prog 15 #[.int .i64 (n0 * n1), .int .i64 (d0 * d1)] W fun e w' => e = .returned (.tuple #[.agg #[.int .i64 X, .int .i64 Y], .int .i64 C]) ∧ Below W.heap.size W w')) :
    Calls Tryd.prog 7 #[.agg #[.int .i64 n0, .int .i64 d0], .agg #[.int .i64 n1, .int .i64 d1]] w fun e w' => e = .returned (.tuple #[.agg #[.int .i64 X, .int .i64 Y], .int .i64 C]) ∧ Below w.heap.size w w' := by
  obtain ⟨⟨c1, c2⟩, c3, c4⟩ := ok_bd (unhide H0)
  obtain ⟨⟨e1, e2⟩, e3, e4⟩ := ok_bd (unhide H1)
  have p1 := prod_bd n0 d1 ⟨c1, c2⟩ ⟨by omega, e4⟩
  have p2 := prod_bd n1 d0 ⟨e1, e2⟩ ⟨by omega, c4⟩
  have p3 := prod_bd d0 d1 ⟨by omega, c4⟩ ⟨by omega, e4⟩
  have p4 := prod_bd n0 n1 ⟨c1, c2⟩ ⟨e1, e2⟩
  go_enter Tryd.func7, Tryd.ntmps7
  go_wp2_with fail
  refine (implOK_any _ _ _ a1 a2 a3 a4).mono ?_
  rintro e w1 ⟨rfl, hb⟩
  rw [unhide H0]
  have HB := hide hb
  have x00 := keep1 hb (b := w.heap.size) (o := 0) (v := .int .i64 n0) (by simp [go_sem])
  have x01 := keep1 hb (b := w.heap.size) (o := 1) (v := .int .i64 d0) (by simp [go_sem])
  have x10 := keep1 hb (b := w.heap.size + 1) (o := 0) (v := .int .i64 n1) (by simp [go_sem])
  have x11 := keep1 hb (b := w.heap.size + 1) (o := 1) (v := .int .i64 d1) (by simp [go_sem])
  have x20 := keep1 hb (b := w.heap.size + 1 + 1) (o := 0) (v := .int .i64 0) (by simp [go_sem])
  have xf0 := keepz hb (b := w.heap.size + 1 + 1) (o := 0) (by simp) (by simp [go_sem])
  have x21 := keep1 hb (b := w.heap.size + 1 + 1) (o := 1) (v := .int .i64 0) (by simp [go_sem])
  have xf1 := keepz hb (b := w.heap.size + 1 + 1) (o := 1) (by simp) (by simp [go_sem])
  have xl0 := cell_lt x00
  have xl1 := cell_lt x10
  have xl2 := cell_lt x20
  have hzx := hb.size
  clear hb
  go_wp2_with fail
  refine (implOK_any _ _ _ b1 b2 b3 b4).mono ?_
  rintro e w2 ⟨rfl, hb⟩
  rw [unhide H1]
  have HB2 := hide hb
  have y00 := keep1 hb x00
  have y01 := keep1 hb x01
  have y10 := keep1 hb x10
  have y11 := keep1 hb x11
  have y20 := keep1 hb x20
  have yf0 := keepz hb (cell_lt x20) xf0
  have y21 := keep1 hb x21
  have yf1 := keepz hb (cell_lt x21) xf1
  have yl0 := cell_lt y00
  have yl1 := cell_lt y10
  have yl2 := cell_lt y20
  have hzy := hb.size
  clear hb x00 x01 x10 x11 x20 x21 xf0 xf1 xl0 xl1 xl2
  go_wp2_with fail
  refine (unhide HC _).mono ?_
  rintro e w3 ⟨rfl, hb⟩
  have HB3 := hide hb
  have z00 := keep1 hb y00
  have z01 := keep1 hb y01
  have z10 := keep1 hb y10
  have z11 := keep1 hb y11
  have z20 := keep1 hb y20
  have zf0 := keepz hb (cell_lt y20) yf0
  have z21 := keep1 hb y21
  have zf1 := keepz hb (cell_lt y21) yf1
  have zl0 := cell_lt z00
  have zl1 := cell_lt z10
  have zl2 := cell_lt z20
  have hzz := hb.size
  clear hb y00 y01 y10 y11 y20 y21 yf0 yf1 yl0 yl1 yl2
  go_wp2
  refine bodyPost_ret (v := .tuple #[.agg #[.int .i64 X, .int .i64 Y], .int .i64 C]) (by simp [results, Tryd.results7, go_sem, z20, z21]) rfl ⟨rfl, ?_⟩
  repeat (first | exact Below.refl _ _ | refine Below.setCell ?_ (by simp <;> omega) _ | refine bel_alloc ?_ _ | refine bel_call ?_ (unhide HB3) | refine bel_call ?_ (unhide HB2) | refine bel_call ?_ (unhide HB))

theorem implMul_any (n0 d0 n1 d1 : Int) (w : World) (a1 : -9223372036854775808 ≤ n0) (a2 : n0 ≤ 9223372036854775807) (a3 : -9223372036854775808 ≤ d0) (a4 : d0 ≤ 9223372036854775807) (b1 : -9223372036854775808 ≤ n1) (b2 : n1 ≤ 9223372036854775807) (b3 : -9223372036854775808 ≤ d1) (b4 : d1 ≤ 9223372036854775807) :
    Calls Tryd.prog 7 #[.agg #[.int .i64 n0, .int .i64 d0], .agg #[.int .i64 n1, .int .i64 d1]] w fun e w' => e = .returned (pairAns n0 d0 n1 d1 (n0 * n1) (d0 * d1)) ∧ Below w.heap.size w w' := by
  unfold pairAns
  by_cases h0 : frOk n0 d0 = true
  · by_cases h1 : frOk n1 d1 = true
    · rw [if_pos ⟨h0, h1⟩]
      obtain ⟨⟨c1, c2⟩, c3, c4⟩ := ok_bd h0
      obtain ⟨⟨e1, e2⟩, e3, e4⟩ := ok_bd h1
      have p1 := prod_bd n0 d1 ⟨c1, c2⟩ ⟨by omega, e4⟩
      have p2 := prod_bd n1 d0 ⟨e1, e2⟩ ⟨by omega, c4⟩
      have p3 := prod_bd d0 d1 ⟨by omega, c4⟩ ⟨by omega, e4⟩
      have p4 := prod_bd n0 n1 ⟨c1, c2⟩ ⟨e1, e2⟩
      exact implMul_good n0 d0 n1 d1 _ _ _ w (hide h0) (hide h1) a1 a2 a3 a4 b1 b2 b3 b4 (hide fun W => implOf_any _ _ W (by omega) (by omega) (by omega) (by omega))
    · rw [if_neg (fun h => h1 h.2)]
      exact implMul_bad2 n0 d0 n1 d1 w (hide h0) (hide (by simpa using h1)) a1 a2 a3 a4 b1 b2 b3 b4
  · rw [if_neg (fun h => h0 h.1)]
    exact implMul_bad1 n0 d0 n1 d1 w (hide (by simpa using h0)) a1 a2 a3 a4 b1 b2 b3 b4

set_option maxHeartbeats 400000 in
theorem implLess_bad1 (n0 d0 n1 d1 : Int) (w : World) (H0 : Hid (frOk n0 d0 = false)) (a1 : -9223372036854775808 ≤ n0) (a2 : n0 ≤ 9223372036854775807) (a3 : -9223372036854775808 ≤ d0) (a4 : d0 ≤ 9223372036854775807) (b1 : -9223372036854775808 ≤ n1) (b2 : n1 ≤ 9223372036854775807) (b3 : -9223372036854775808 ≤ d1) (b4 : d1 ≤ 9223372036854775807) :
    Calls Tryd.prog 11 #[.agg #[.int .i64 n0, .int .i64 d0], .agg #[.int .i64 n1, .int .i64 d1]] w fun e w' => e = .returned (.tuple #[.bool false, .int .i64 1]) ∧ Below w.heap.size w w' := by
  go_enter Tryd.func11, Tryd.ntmps11
  go_wp2_with fail
  refine (implOK_any _ _ _ a1 a2 a3 a4).mono ?_
  rintro e w1 ⟨rfl, hb⟩
  rw [unhide H0]
  have HB := hide hb
  have x00 := keep1 hb (b := w.heap.size) (o := 0) (v := .int .i64 n0) (by simp [go_sem])
  have x01 := keep1 hb (b := w.heap.size) (o := 1) (v := .int .i64 d0) (by simp [go_sem])
  have x10 := keep1 hb (b := w.heap.size + 1) (o := 0) (v := .int .i64 n1) (by simp [go_sem])
  have x11 := keep1 hb (b := w.heap.size + 1) (o := 1) (v := .int .i64 d1) (by simp [go_sem])
  have xl0 := cell_lt x00
  have xl1 := cell_lt x10
  have hzx := hb.size
  clear hb
  go_wp2
  go_ret2
  refine ⟨rfl, ?_⟩
  repeat (first | exact Below.refl _ _ | refine Below.setCell ?_ (by simp <;> omega) _ | refine bel_alloc ?_ _ | refine bel_call ?_ (unhide HB))

set_option maxHeartbeats 400000 in
theorem implLess_bad2 (n0 d0 n1 d1 : Int) (w : World) (H0 : Hid (frOk n0 d0 = true)) (H1 : Hid (frOk n1 d1 = false)) (a1 : -9223372036854775808 ≤ n0) (a2 : n0 ≤ 9223372036854775807) (a3 : -9223372036854775808 ≤ d0) (a4 : d0 ≤ 9223372036854775807) (b1 : -9223372036854775808 ≤ n1) (b2 : n1 ≤ 9223372036854775807) (b3 : -9223372036854775808 ≤ d1) (b4 : d1 ≤ 9223372036854775807) :
    Calls Tryd.prog 11 #[.agg #[.int .i64 n0, .int .i64 d0], .agg #[.int .i64 n1, .int .i64 d1]] w fun e w' => e = .returned (.tuple #[.bool false, .int .i64 1]) ∧ Below w.heap.size w w' := by
  go_enter Tryd.func11, Tryd.ntmps11
  go_wp2_with fail
  refine (implOK_any _ _ _ a1 a2 a3 a4).mono ?_
  rintro e w1 ⟨rfl, hb⟩
  rw [unhide H0]
  have HB := hide hb
  have x00 := keep1 hb (b := w.heap.size) (o := 0) (v := .int .i64 n0) (by simp [go_sem])
  have x01 := keep1 hb (b := w.heap.size) (o := 1) (v := .int .i64 d0) (by simp [go_sem])
  have x10 := keep1 hb (b := w.heap.size + 1) (o := 0) (v := .int .i64 n1) (by simp [go_sem])
  have x11 := keep1 hb (b := w.heap.size + 1) (o := 1) (v := .int .i64 d1) (by simp [go_sem])
  have xl0 := cell_lt x00
  have xl1 := cell_lt x10
  have hzx := hb.size
  clear hb
  go_wp2_with fail
  refine (implOK_any _ _ _ b1 b2 b3 b4).mono ?_
  rintro e w2 ⟨rfl, hb⟩
  rw [unhide H1]
  have HB2 := hide hb
  have y00 := keep1 hb x00
  have y01 := keep1 hb x01
  have y10 := keep1 hb x10
  have y11 := keep1 hb x11
  have yl0 := cell_lt y00
  have yl1 := cell_lt y10
  have hzy := hb.size
  clear hb x00 x01 x10 x11 xl0 xl1
  go_wp2
  go_ret2
  refine ⟨rfl, ?_⟩
  repeat (first | exact Below.refl _ _ | refine Below.setCell ?_ (by simp <;> omega) _ | refine bel_alloc ?_ _ | refine bel_call ?_ (unhide HB2) | refine bel_call ?_ (unhide HB))

set_option maxHeartbeats 400000 in
theorem implLess_good (n0 d0 n1 d1 : Int) (w : World) (H0 : Hid (frOk n0 d0 = true)) (H1 : Hid (frOk n1 d1 = true)) (a1 : -9223372036854775808 ≤ n0) (a2 : n0 ≤ 9223372036854775807) (a3 : -9223372036854775808 ≤ d0) (a4 : d0 ≤ 9223372036854775807) (b1 : -9223372036854775808 ≤ n1) (b2 : n1 ≤ 9223372036854775807) (b3 : -9223372036854775808 ≤ d1) (b4 : d1 ≤ 9223372036854775807) :
    Calls Tryd.prog 11 #[.agg #[.int .i64 n0, .int .i64 d0], .agg #[.int .i64 n1, .int .i64 d1]] w fun e w' => e = .returned (.tuple #[.bool (decide (n0 * d1 < n1 * d0)), .int .i64 0]) ∧ Below w.heap.size w w' := by
  obtain ⟨⟨c1, c2⟩, c3, c4⟩ := ok_bd (unhide H0)
  obtain ⟨⟨e1, e2⟩, e3, e4⟩ := ok_bd (unhide H1)
  have p1 := prod_bd n0 d1 ⟨c1, c2⟩ ⟨by omega, e4⟩
  have p2 := prod_bd n1 d0 ⟨e1, e2⟩ ⟨by omega, c4⟩
  go_enter Tryd.func11, Tryd.ntmps11
  go_wp2_with fail
  refine (implOK_any _ _ _ a1 a2 a3 a4).mono ?_
  rintro e w1 ⟨rfl, hb⟩
  rw [unhide H0]
  have HB := hide hb
  have x00 := keep1 hb (b := w.heap.size) (o := 0) (v := .int .i64 n0) (by simp [go_sem])
  have x01 := keep1 hb (b := w.heap.size) (o := 1) (v := .int .i64 d0) (by simp [go_sem])
  have x10 := keep1 hb (b := w.heap.size + 1) (o := 0) (v := .int .i64 n1) (by simp [go_sem])
  have x11 := keep1 hb (b := w.heap.size + 1) (o := 1) (v := .int .i64 d1) (by simp [go_sem])
  have xl0 := cell_lt x00
  have xl1 := cell_lt x10
  have hzx := hb.size
  clear hb
  go_wp2_with fail
  refine (implOK_any _ _ _ b1 b2 b3 b4).mono ?_
  rintro e w2 ⟨rfl, hb⟩
  rw [unhide H1]
  have HB2 := hide hb
  have y00 := keep1 hb x00
  have y01 := keep1 hb x01
  have y10 := keep1 hb x10
  have y11 := keep1 hb x11
  have yl0 := cell_lt y00
  have yl1 := cell_lt y10
  have hzy := hb.size
  clear hb x00 x01 x10 x11 xl0 xl1
  go_wp2
  go_ret2
  refine ⟨rfl, ?_⟩
  repeat (first | exact Below.refl _ _ | refine Below.setCell ?_ (by simp <;> omega) _ | refine bel_alloc ?_ _ | refine bel_call ?_ (unhide HB2) | refine bel_call ?_ (unhide HB))

theorem implLess_any (n0 d0 n1 d1 : Int) (w : World) (a1 : -9223372036854775808 ≤ n0) (a2 : n0 ≤ 9223372036854775807) (a3 : -9223372036854775808 ≤ d0) (a4 : d0 ≤ 9223372036854775807) (b1 : -9223372036854775808 ≤ n1) (b2 : n1 ≤ 9223372036854775807) (b3 : -9223372036854775808 ≤ d1) (b4 : d1 ≤ 9223372036854775807) :
    Calls Tryd.prog 11 #[.agg #[.int .i64 n0, .int .i64 d0], .agg #[.int .i64 n1, .int .i64 d1]] w fun e w' => e = .returned (lessAns n0 d0 n1 d1) ∧ Below w.heap.size w w' := by
  unfold lessAns
  by_cases h0 : frOk n0 d0 = true
  · by_cases h1 : frOk n1 d1 = true
    · rw [if_pos ⟨h0, h1⟩]
      exact implLess_good n0 d0 n1 d1 w (hide h0) (hide h1) a1 a2 a3 a4 b1 b2 b3 b4
    · rw [if_neg (fun h => h1 h.2)]
      exact implLess_bad2 n0 d0 n1 d1 w (hide h0) (hide (by simpa using h1)) a1 a2 a3 a4 b1 b2 b3 b4
  · rw [if_neg (fun h => h0 h.1)]
    exact implLess_bad1 n0 d0 n1 d1 w (hide (by simpa using h0)) a1 a2 a3 a4 b1 b2 b3 b4

theorem ka {W : World} {o : Obj} {b f : Nat} {v : Value} (h : W.cell? ⟨b, f, none⟩ = some v) : (W.alloc o).cell? ⟨b, f, none⟩ = some v := by
  have hl := cell_lt h
  rw [← h]
  exact World.cell?_alloc_past (w := W) o b f hl

theorem kd {W : World} {b f : Nat} {v : Value} (h : W.cell? ⟨b, f, none⟩ = some v) : W.drew.cell? ⟨b, f, none⟩ = some v := h

theorem ks {W : World} {b f c g : Nat} {v x : Value} (hne : b ≠ c) (h : W.cell? ⟨b, f, none⟩ = some v) : (W.setCell ⟨c, g, none⟩ x).cell? ⟨b, f, none⟩ = some v := by
  exact (World.cell?_setCell_far W ⟨c, g, none⟩ ⟨b, f, none⟩ x (fun e => hne e.symm)).trans h

theorem le1 {b n k : Nat} (h : b ≤ n) : b ≤ n + k := Nat.le_trans h (Nat.le_add_right n k)

theorem lt1 {b n k : Nat} (h : b < n) : b < n + k := Nat.lt_of_lt_of_le h (Nat.le_add_right n k)

theorem pair_form (n0 d0 n1 d1 x y : Int) : ∃ X Y C : Int, pairAns n0 d0 n1 d1 x y = .tuple #[.agg #[.int .i64 X, .int .i64 Y], .int .i64 C] := by
  unfold pairAns
  split
  · exact ⟨_, _, _, rfl⟩
  · exact ⟨0, 0, 1, rfl⟩

theorem less_form (n0 d0 n1 d1 : Int) : ∃ (t : Bool) (C : Int), lessAns n0 d0 n1 d1 = .tuple #[.bool t, .int .i64 C] := by
  unfold lessAns
  split
  · exact ⟨_, _, rfl⟩
  · exact ⟨false, 1, rfl⟩


end Go.Proofs.YtidafleegkofkaaDoor
