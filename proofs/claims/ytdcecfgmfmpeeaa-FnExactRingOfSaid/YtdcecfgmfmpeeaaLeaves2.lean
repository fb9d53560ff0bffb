/-
  More of the small functions of the plane: ways, signs, turns, orders, right points.
-/
import Derived.Test.YtdcecfgmfmpeeaaLeaves
import Derived.Deep.RegionHeld3
import Derived.Deep.DeepCutAuto
namespace Go.Proofs.Ytdcecfgmfmpeeaa
open Go.ChangeShapes Go.WideShapes Go.ChangeAt Go.RowKit
set_option linter.unusedVariables false
set_option linter.unusedSimpArgs false

theorem bel_call {B : Nat} {w W w1 : World} (h : Below B w W) (hB : B ≤ W.heap.size) (hb : Below W.heap.size W w1) : Below B w w1 := h.trans (hb.mono hB)
theorem cell_lt {W : World} {b o : Nat} {v : Value} (h : W.cell? ⟨b, o, none⟩ = some v) : b < W.heap.size := by
  by_cases hb : b < W.heap.size
  · exact hb
  · have : W.heap[b]? = none := by simp; omega
    simp [World.cell?, this] at h
theorem keep1 {W w1 : World} (hb : Below W.heap.size W w1) {b o : Nat} {v : Value} (h : W.cell? ⟨b, o, none⟩ = some v) : w1.cell? ⟨b, o, none⟩ = some v :=
  (hb.cell (p := ⟨b, o, none⟩) (cell_lt h)).trans h
theorem keepz {W w1 : World} (hb : Below W.heap.size W w1) {b o : Nat} (h : b < W.heap.size) (hf : W.frozen? ⟨b, o, none⟩ = false) : w1.frozen? ⟨b, o, none⟩ = false :=
  (hb.frozen (p := ⟨b, o, none⟩) h).trans hf
theorem ka {W : World} {o : Obj} {b f : Nat} {v : Value} (h : W.cell? ⟨b, f, none⟩ = some v) : (W.alloc o).cell? ⟨b, f, none⟩ = some v := by
  rw [World.cell?_alloc_past _ _ _ (cell_lt h)]; exact h
theorem bc {w W w1 : World} (h : Below w.heap.size w W) (hb : Below W.heap.size W w1) : Below w.heap.size w w1 := h.trans (hb.mono h.size)
theorem ba {w W : World} (h : Below w.heap.size w W) (o : Obj) : Below w.heap.size w (W.alloc o) := h.alloc h.size o
theorem le1 {b n k : Nat} (h : b ≤ n) : b ≤ n + k := Nat.le_trans h (Nat.le_add_right n k)
theorem lt1 {b n k : Nat} (h : b < n) : b < n + k := Nat.lt_of_lt_of_le h (Nat.le_add_right n k)

theorem acr_exact (a1 a2 b1 b2 : Int) (w : World) (ha : (-200000 ≤ a1 ∧ a1 ≤ 200000) ∧ -200000 ≤ a2 ∧ a2 ≤ 200000) (hb : (-200000 ≤ b1 ∧ b1 ≤ 200000) ∧ -200000 ≤ b2 ∧ b2 ≤ 200000) :
    Calls Try.prog 55 #[.agg #[.int .i64 a1, .int .i64 a2], .agg #[.int .i64 b1, .int .i64 b2]] w fun e w' => e = .returned (.int .i64 (a1 * b2 - a2 * b1)) ∧ w' = (w.alloc (.cells #[.int .i64 a1, .int .i64 a2] 30)).alloc (.cells #[.int .i64 b1, .int .i64 b2] 30) := by
  obtain ⟨⟨p1, p2⟩, p3, p4⟩ := ha
  obtain ⟨⟨q1, q2⟩, q3, q4⟩ := hb
  obtain ⟨m1, m1'⟩ := mul_bd a1 b2 200000 200000 (by omega) (by omega) (by omega) (by omega)
  obtain ⟨m2, m2'⟩ := mul_bd a2 b1 200000 200000 (by omega) (by omega) (by omega) (by omega)
  go_enter Try.func55, Try.ntmps55
  go_wp2
  go_ret
  exact ⟨rfl, rfl⟩
theorem sub_exact (a1 a2 b1 b2 : Int) (w : World) (ha : ptOk (a1, a2) = true) (hb : ptOk (b1, b2) = true) :
    Calls Try.prog 52 #[.agg #[.int .i64 a1, .int .i64 a2], .agg #[.int .i64 b1, .int .i64 b2]] w fun e w' => e = .returned (.agg #[.int .i64 (a1 - b1), .int .i64 (a2 - b2)]) ∧ w' = ((w.alloc (.cells #[.int .i64 a1, .int .i64 a2] 30)).alloc (.cells #[.int .i64 b1, .int .i64 b2] 30)).alloc (.cells #[.int .i64 (a1 - b1), .int .i64 (a2 - b2)] 30) := by
  obtain ⟨p1, p2, p3, p4⟩ := ok_bd ha
  obtain ⟨q1, q2, q3, q4⟩ := ok_bd hb
  simp only at p1 p2 p3 p4 q1 q2 q3 q4
  clear ha hb
  go_enter Try.func52, Try.ntmps52
  go_wp2
  exact bodyPost_ret (v := .agg #[.int .i64 (a1 - b1), .int .i64 (a2 - b2)]) (by simp [results, Try.results52, go_sem]) rfl ⟨rfl, by simp [go_sem]⟩
theorem sign_any (n : Int) (w : World) : Calls Try.prog 87 #[.int .i64 n] w fun e w' => e = .returned (.int .i64 (sgn n)) ∧ w' = w := by
  by_cases h1 : 0 < n
  · have b1 : decide (0 < n) = true := decide_eq_true h1
    go_enter Try.func87, Try.ntmps87
    go_wp2
    go_ret
    exact ⟨ret_int (by rw [sgn_pos h1]), rfl⟩
  · by_cases h2 : n < 0
    · have b1 : decide (0 < n) = false := decide_eq_false h1
      have b2 : decide (n < 0) = true := decide_eq_true h2
      go_enter Try.func87, Try.ntmps87
      go_wp2
      go_ret
      exact ⟨ret_int (by rw [sgn_neg h2]), rfl⟩
    · have b1 : decide (0 < n) = false := decide_eq_false h1
      have b2 : decide (n < 0) = false := decide_eq_false h2
      go_enter Try.func87, Try.ntmps87
      go_wp2
      go_ret
      exact ⟨ret_int (by have : n = 0 := by omega
                         subst this; rfl), rfl⟩
theorem dif_bd {a1 a2 b1 b2 : Int} (ha : ptOk (a1, a2) = true) (hb : ptOk (b1, b2) = true) : (-200000 ≤ a1 - b1 ∧ a1 - b1 ≤ 200000) ∧ -200000 ≤ a2 - b2 ∧ a2 - b2 ≤ 200000 := by
  obtain ⟨p1, p2, p3, p4⟩ := ok_bd ha
  obtain ⟨q1, q2, q3, q4⟩ := ok_bd hb
  simp only at p1 p2 p3 p4 q1 q2 q3 q4
  omega
set_option maxRecDepth 100000 in
set_option maxHeartbeats 400000 in
/-- the turn of three right points, by the program -/
theorem turn_ints (a1 a2 b1 b2 c1 c2 : Int) (w : World) (ha : ptOk (a1, a2) = true) (hb : ptOk (b1, b2) = true) (hc : ptOk (c1, c2) = true) :
    Calls Try.prog 64 #[.agg #[.int .i64 a1, .int .i64 a2], .agg #[.int .i64 b1, .int .i64 b2], .agg #[.int .i64 c1, .int .i64 c2]] w fun e w' => e = .returned (.int .i64 (sgn ((b1 - a1) * (c2 - a2) - (b2 - a2) * (c1 - a1)))) ∧ Below w.heap.size w w' := by
  have HA := hide ha
  have HB := hide hb
  have HC := hide hc
  clear ha hb hc
  go_enter Try.func64, Try.ntmps64
  go_wp2_with fail
  go_region_held3 (fun wx => wx.cell? ⟨w.heap.size, 0, none⟩ = some (.int .i64 a1) ∧ wx.cell? ⟨w.heap.size, 1, none⟩ = some (.int .i64 a2) ∧ wx.cell? ⟨w.heap.size + 1, 0, none⟩ = some (.int .i64 b1) ∧ wx.cell? ⟨w.heap.size + 1, 1, none⟩ = some (.int .i64 b2) ∧ wx.cell? ⟨w.heap.size + 1 + 1, 0, none⟩ = some (.int .i64 c1) ∧ wx.cell? ⟨w.heap.size + 1 + 1, 1, none⟩ = some (.int .i64 c2))
    (simp (maxDischargeDepth := 12) [go_sem, le1, lt1, *])
    (first
    | (go_at_call 52; refine (sub_exact _ _ _ _ _ ?_ ?_).mono ?_; (first | exact unhide HB | exact unhide HC); exact unhide HA; rintro e w' ⟨rfl, rfl⟩)
    | (go_at_call 55; refine (acr_exact _ _ _ _ _ (dif_bd (unhide HB) (unhide HA)) (dif_bd (unhide HC) (unhide HA))).mono ?_; rintro e w' ⟨rfl, rfl⟩)
    | (go_at_call 87; refine (sign_any _ _).mono ?_; rintro e w' ⟨rfl, rfl⟩))
  all_goals
    go_wp2_with fail
    go_ret
    refine ⟨rfl, ?_⟩
    repeat (first | exact Below.refl _ _ | refine ba ?_ _ | refine Below.drew ?_)
end Go.Proofs.Ytdcecfgmfmpeeaa
