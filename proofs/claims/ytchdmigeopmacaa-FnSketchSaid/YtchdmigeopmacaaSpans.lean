/-
  The program's spans of a rule and of many.
-/
import Derived.Test.YtchdmigeopmacaaOwn
import Derived.Laws.AppendOwn
namespace Go.Proofs.Ytchdmigeopmacaa
open Go.ChangeShapes Go.WideShapes Go.ChangeAt Go.RowKit
set_option linter.unusedVariables false
set_option linter.unusedSimpArgs false

/-- low, high, by how much, just so -/
abbrev Sp := Nat × Nat × Int × Bool
def spR (r : Ru) : List Sp :=
  if r.1 = 1 then [(0, 2 * r.2.1.toNat + 1, r.2.2.2, true)]
  else if r.1 = 2 then [(0, 2 * r.2.1.toNat + 2, r.2.2.2, true)]
  else if r.1 = 3 ∨ r.1 = 7 then [(2 * r.2.1.toNat + 1, 2 * r.2.2.1.toNat + 1, r.2.2.2, true)]
  else if r.1 = 4 ∨ r.1 = 8 then [(2 * r.2.1.toNat + 2, 2 * r.2.2.1.toNat + 2, r.2.2.2, true)]
  else if r.1 = 5 then [(2 * r.2.1.toNat + 1, 2 * r.2.2.1.toNat + 1, r.2.2.2, false)]
  else if r.1 = 6 then [(2 * r.2.1.toNat + 2, 2 * r.2.2.1.toNat + 2, r.2.2.2, false)]
  else if r.1 = 9 then [(2 * r.2.1.toNat + 1, 2 * r.2.2.1.toNat + 1, 0, true), (2 * r.2.1.toNat + 2, 2 * r.2.2.1.toNat + 2, 0, true)]
  else []
def spV (s : Sp) : List Value := [.int .i64 (s.1 : Int), .int .i64 (s.2.1 : Int), .int .i64 s.2.2.1, .bool s.2.2.2]
def flatV (ss : List Sp) : List Value := ss.flatMap spV

theorem xOf_any (p : Int) (w : World) (h0 : 0 ≤ p) (h1 : p ≤ 24) : Calls Try.prog 24 #[.int .i64 p] w fun e w' => e = .returned (.int .i64 (2 * p + 1)) ∧ w' = w := by
  go_enter Try.func24, Try.ntmps24
  go_wp2
  go_ret
  exact ⟨rfl, rfl⟩
theorem yOf_any (p : Int) (w : World) (h0 : 0 ≤ p) (h1 : p ≤ 24) : Calls Try.prog 25 #[.int .i64 p] w fun e w' => e = .returned (.int .i64 (2 * p + 2)) ∧ w' = w := by
  go_enter Try.func25, Try.ntmps25
  go_wp2
  go_ret
  exact ⟨rfl, rfl⟩



set_option maxHeartbeats 2000000 in
theorem spans_1 (a b m : Int) (w : World) (a0 : 0 ≤ a) (a1 : a ≤ 24) (b0 : 0 ≤ b) (b1 : b ≤ 24) :
    Calls Try.prog 53 #[ruv (1, a, b, m)] w fun e w' => e = .returned (.slice (some ⟨w.heap.size + 1, 0, none⟩) 1 1) ∧ (w'.heap[w.heap.size + 1]? = some (.cells #[.int .i64 (0), .int .i64 (2 * a + 1), .int .i64 m, .bool true] 58)) ∧ Below w.heap.size w w' := by
  have HXA := hide (fun W => xOf_any a W a0 a1)
  have HXB := hide (fun W => xOf_any b W b0 b1)
  have HYA := hide (fun W => yOf_any a W a0 a1)
  have HYB := hide (fun W => yOf_any b W b0 b1)
  go_enter Try.func53, Try.ntmps53
  go_wp2_with fail
  go_region_held3 (fun wx => wx.cell? ⟨w.heap.size, 1, none⟩ = some (.int .i64 a) ∧ wx.cell? ⟨w.heap.size, 2, none⟩ = some (.int .i64 b) ∧ wx.cell? ⟨w.heap.size, 3, none⟩ = some (.int .i64 m))
    (simp (maxDischargeDepth := 12) [go_sem, le1, lt1, *])
    (first
    | (go_at_call 24; (first | with_reducible refine (unhide HXA _).mono ?_ | with_reducible refine (unhide HXB _).mono ?_); rintro e w' ⟨rfl, rfl⟩))
  all_goals
    go_wp2_with fail
    go_ret
    refine ⟨rfl, ?_, by repeat (first | exact Below.refl _ _ | refine ba ?_ _ | refine Below.drew ?_)⟩
    show ((w.alloc (.cells #[.int .i64 1, .int .i64 a, .int .i64 b, .int .i64 m] 35)).alloc (.cells #[.int .i64 (0), .int .i64 (2 * a + 1), .int .i64 m, .bool true] 58)).heap[w.heap.size + 1]? = _
    have h := heap_alloc_new (w.alloc (.cells #[.int .i64 1, .int .i64 a, .int .i64 b, .int .i64 m] 35)) (.cells #[.int .i64 (0), .int .i64 (2 * a + 1), .int .i64 m, .bool true] 58)
    simpa using h

set_option maxHeartbeats 2000000 in
theorem spans_2 (a b m : Int) (w : World) (a0 : 0 ≤ a) (a1 : a ≤ 24) (b0 : 0 ≤ b) (b1 : b ≤ 24) :
    Calls Try.prog 53 #[ruv (2, a, b, m)] w fun e w' => e = .returned (.slice (some ⟨w.heap.size + 1, 0, none⟩) 1 1) ∧ (w'.heap[w.heap.size + 1]? = some (.cells #[.int .i64 (0), .int .i64 (2 * a + 2), .int .i64 m, .bool true] 58)) ∧ Below w.heap.size w w' := by
  have HXA := hide (fun W => xOf_any a W a0 a1)
  have HXB := hide (fun W => xOf_any b W b0 b1)
  have HYA := hide (fun W => yOf_any a W a0 a1)
  have HYB := hide (fun W => yOf_any b W b0 b1)
  go_enter Try.func53, Try.ntmps53
  go_wp2_with fail
  go_region_held3 (fun wx => wx.cell? ⟨w.heap.size, 1, none⟩ = some (.int .i64 a) ∧ wx.cell? ⟨w.heap.size, 2, none⟩ = some (.int .i64 b) ∧ wx.cell? ⟨w.heap.size, 3, none⟩ = some (.int .i64 m))
    (simp (maxDischargeDepth := 12) [go_sem, le1, lt1, *])
    (first
    | (go_at_call 25; (first | with_reducible refine (unhide HYA _).mono ?_ | with_reducible refine (unhide HYB _).mono ?_); rintro e w' ⟨rfl, rfl⟩))
  all_goals
    go_wp2_with fail
    go_ret
    refine ⟨rfl, ?_, by repeat (first | exact Below.refl _ _ | refine ba ?_ _ | refine Below.drew ?_)⟩
    show ((w.alloc (.cells #[.int .i64 2, .int .i64 a, .int .i64 b, .int .i64 m] 35)).alloc (.cells #[.int .i64 (0), .int .i64 (2 * a + 2), .int .i64 m, .bool true] 58)).heap[w.heap.size + 1]? = _
    have h := heap_alloc_new (w.alloc (.cells #[.int .i64 2, .int .i64 a, .int .i64 b, .int .i64 m] 35)) (.cells #[.int .i64 (0), .int .i64 (2 * a + 2), .int .i64 m, .bool true] 58)
    simpa using h

set_option maxHeartbeats 2000000 in
theorem spans_3 (a b m : Int) (w : World) (a0 : 0 ≤ a) (a1 : a ≤ 24) (b0 : 0 ≤ b) (b1 : b ≤ 24) :
    Calls Try.prog 53 #[ruv (3, a, b, m)] w fun e w' => e = .returned (.slice (some ⟨w.heap.size + 1, 0, none⟩) 1 1) ∧ (w'.heap[w.heap.size + 1]? = some (.cells #[.int .i64 (2 * a + 1), .int .i64 (2 * b + 1), .int .i64 m, .bool true] 58)) ∧ Below w.heap.size w w' := by
  have HXA := hide (fun W => xOf_any a W a0 a1)
  have HXB := hide (fun W => xOf_any b W b0 b1)
  have HYA := hide (fun W => yOf_any a W a0 a1)
  have HYB := hide (fun W => yOf_any b W b0 b1)
  go_enter Try.func53, Try.ntmps53
  go_wp2_with fail
  go_region_held3 (fun wx => wx.cell? ⟨w.heap.size, 1, none⟩ = some (.int .i64 a) ∧ wx.cell? ⟨w.heap.size, 2, none⟩ = some (.int .i64 b) ∧ wx.cell? ⟨w.heap.size, 3, none⟩ = some (.int .i64 m))
    (simp (maxDischargeDepth := 12) [go_sem, le1, lt1, *])
    (first
    | (go_at_call 24; (first | with_reducible refine (unhide HXA _).mono ?_ | with_reducible refine (unhide HXB _).mono ?_); rintro e w' ⟨rfl, rfl⟩))
  all_goals
    go_wp2_with fail
    go_ret
    refine ⟨rfl, ?_, by repeat (first | exact Below.refl _ _ | refine ba ?_ _ | refine Below.drew ?_)⟩
    show ((w.alloc (.cells #[.int .i64 3, .int .i64 a, .int .i64 b, .int .i64 m] 35)).alloc (.cells #[.int .i64 (2 * a + 1), .int .i64 (2 * b + 1), .int .i64 m, .bool true] 58)).heap[w.heap.size + 1]? = _
    have h := heap_alloc_new (w.alloc (.cells #[.int .i64 3, .int .i64 a, .int .i64 b, .int .i64 m] 35)) (.cells #[.int .i64 (2 * a + 1), .int .i64 (2 * b + 1), .int .i64 m, .bool true] 58)
    simpa using h

set_option maxHeartbeats 2000000 in
theorem spans_4 (a b m : Int) (w : World) (a0 : 0 ≤ a) (a1 : a ≤ 24) (b0 : 0 ≤ b) (b1 : b ≤ 24) :
    Calls Try.prog 53 #[ruv (4, a, b, m)] w fun e w' => e = .returned (.slice (some ⟨w.heap.size + 1, 0, none⟩) 1 1) ∧ (w'.heap[w.heap.size + 1]? = some (.cells #[.int .i64 (2 * a + 2), .int .i64 (2 * b + 2), .int .i64 m, .bool true] 58)) ∧ Below w.heap.size w w' := by
  have HXA := hide (fun W => xOf_any a W a0 a1)
  have HXB := hide (fun W => xOf_any b W b0 b1)
  have HYA := hide (fun W => yOf_any a W a0 a1)
  have HYB := hide (fun W => yOf_any b W b0 b1)
  go_enter Try.func53, Try.ntmps53
  go_wp2_with fail
  go_region_held3 (fun wx => wx.cell? ⟨w.heap.size, 1, none⟩ = some (.int .i64 a) ∧ wx.cell? ⟨w.heap.size, 2, none⟩ = some (.int .i64 b) ∧ wx.cell? ⟨w.heap.size, 3, none⟩ = some (.int .i64 m))
    (simp (maxDischargeDepth := 12) [go_sem, le1, lt1, *])
    (first
    | (go_at_call 25; (first | with_reducible refine (unhide HYA _).mono ?_ | with_reducible refine (unhide HYB _).mono ?_); rintro e w' ⟨rfl, rfl⟩))
  all_goals
    go_wp2_with fail
    go_ret
    refine ⟨rfl, ?_, by repeat (first | exact Below.refl _ _ | refine ba ?_ _ | refine Below.drew ?_)⟩
    show ((w.alloc (.cells #[.int .i64 4, .int .i64 a, .int .i64 b, .int .i64 m] 35)).alloc (.cells #[.int .i64 (2 * a + 2), .int .i64 (2 * b + 2), .int .i64 m, .bool true] 58)).heap[w.heap.size + 1]? = _
    have h := heap_alloc_new (w.alloc (.cells #[.int .i64 4, .int .i64 a, .int .i64 b, .int .i64 m] 35)) (.cells #[.int .i64 (2 * a + 2), .int .i64 (2 * b + 2), .int .i64 m, .bool true] 58)
    simpa using h

set_option maxHeartbeats 2000000 in
theorem spans_5 (a b m : Int) (w : World) (a0 : 0 ≤ a) (a1 : a ≤ 24) (b0 : 0 ≤ b) (b1 : b ≤ 24) :
    Calls Try.prog 53 #[ruv (5, a, b, m)] w fun e w' => e = .returned (.slice (some ⟨w.heap.size + 1, 0, none⟩) 1 1) ∧ (w'.heap[w.heap.size + 1]? = some (.cells #[.int .i64 (2 * a + 1), .int .i64 (2 * b + 1), .int .i64 m, .bool false] 58)) ∧ Below w.heap.size w w' := by
  have HXA := hide (fun W => xOf_any a W a0 a1)
  have HXB := hide (fun W => xOf_any b W b0 b1)
  have HYA := hide (fun W => yOf_any a W a0 a1)
  have HYB := hide (fun W => yOf_any b W b0 b1)
  go_enter Try.func53, Try.ntmps53
  go_wp2_with fail
  go_region_held3 (fun wx => wx.cell? ⟨w.heap.size, 1, none⟩ = some (.int .i64 a) ∧ wx.cell? ⟨w.heap.size, 2, none⟩ = some (.int .i64 b) ∧ wx.cell? ⟨w.heap.size, 3, none⟩ = some (.int .i64 m))
    (simp (maxDischargeDepth := 12) [go_sem, le1, lt1, *])
    (first
    | (go_at_call 24; (first | with_reducible refine (unhide HXA _).mono ?_ | with_reducible refine (unhide HXB _).mono ?_); rintro e w' ⟨rfl, rfl⟩))
  all_goals
    go_wp2_with fail
    go_ret
    refine ⟨rfl, ?_, by repeat (first | exact Below.refl _ _ | refine ba ?_ _ | refine Below.drew ?_)⟩
    show ((w.alloc (.cells #[.int .i64 5, .int .i64 a, .int .i64 b, .int .i64 m] 35)).alloc (.cells #[.int .i64 (2 * a + 1), .int .i64 (2 * b + 1), .int .i64 m, .bool false] 58)).heap[w.heap.size + 1]? = _
    have h := heap_alloc_new (w.alloc (.cells #[.int .i64 5, .int .i64 a, .int .i64 b, .int .i64 m] 35)) (.cells #[.int .i64 (2 * a + 1), .int .i64 (2 * b + 1), .int .i64 m, .bool false] 58)
    simpa using h

set_option maxHeartbeats 2000000 in
theorem spans_6 (a b m : Int) (w : World) (a0 : 0 ≤ a) (a1 : a ≤ 24) (b0 : 0 ≤ b) (b1 : b ≤ 24) :
    Calls Try.prog 53 #[ruv (6, a, b, m)] w fun e w' => e = .returned (.slice (some ⟨w.heap.size + 1, 0, none⟩) 1 1) ∧ (w'.heap[w.heap.size + 1]? = some (.cells #[.int .i64 (2 * a + 2), .int .i64 (2 * b + 2), .int .i64 m, .bool false] 58)) ∧ Below w.heap.size w w' := by
  have HXA := hide (fun W => xOf_any a W a0 a1)
  have HXB := hide (fun W => xOf_any b W b0 b1)
  have HYA := hide (fun W => yOf_any a W a0 a1)
  have HYB := hide (fun W => yOf_any b W b0 b1)
  go_enter Try.func53, Try.ntmps53
  go_wp2_with fail
  go_region_held3 (fun wx => wx.cell? ⟨w.heap.size, 1, none⟩ = some (.int .i64 a) ∧ wx.cell? ⟨w.heap.size, 2, none⟩ = some (.int .i64 b) ∧ wx.cell? ⟨w.heap.size, 3, none⟩ = some (.int .i64 m))
    (simp (maxDischargeDepth := 12) [go_sem, le1, lt1, *])
    (first
    | (go_at_call 25; (first | with_reducible refine (unhide HYA _).mono ?_ | with_reducible refine (unhide HYB _).mono ?_); rintro e w' ⟨rfl, rfl⟩))
  all_goals
    go_wp2_with fail
    go_ret
    refine ⟨rfl, ?_, by repeat (first | exact Below.refl _ _ | refine ba ?_ _ | refine Below.drew ?_)⟩
    show ((w.alloc (.cells #[.int .i64 6, .int .i64 a, .int .i64 b, .int .i64 m] 35)).alloc (.cells #[.int .i64 (2 * a + 2), .int .i64 (2 * b + 2), .int .i64 m, .bool false] 58)).heap[w.heap.size + 1]? = _
    have h := heap_alloc_new (w.alloc (.cells #[.int .i64 6, .int .i64 a, .int .i64 b, .int .i64 m] 35)) (.cells #[.int .i64 (2 * a + 2), .int .i64 (2 * b + 2), .int .i64 m, .bool false] 58)
    simpa using h

set_option maxHeartbeats 2000000 in
theorem spans_7 (a b m : Int) (w : World) (a0 : 0 ≤ a) (a1 : a ≤ 24) (b0 : 0 ≤ b) (b1 : b ≤ 24) :
    Calls Try.prog 53 #[ruv (7, a, b, m)] w fun e w' => e = .returned (.slice (some ⟨w.heap.size + 1, 0, none⟩) 1 1) ∧ (w'.heap[w.heap.size + 1]? = some (.cells #[.int .i64 (2 * a + 1), .int .i64 (2 * b + 1), .int .i64 m, .bool true] 58)) ∧ Below w.heap.size w w' := by
  have HXA := hide (fun W => xOf_any a W a0 a1)
  have HXB := hide (fun W => xOf_any b W b0 b1)
  have HYA := hide (fun W => yOf_any a W a0 a1)
  have HYB := hide (fun W => yOf_any b W b0 b1)
  go_enter Try.func53, Try.ntmps53
  go_wp2_with fail
  go_region_held3 (fun wx => wx.cell? ⟨w.heap.size, 1, none⟩ = some (.int .i64 a) ∧ wx.cell? ⟨w.heap.size, 2, none⟩ = some (.int .i64 b) ∧ wx.cell? ⟨w.heap.size, 3, none⟩ = some (.int .i64 m))
    (simp (maxDischargeDepth := 12) [go_sem, le1, lt1, *])
    (first
    | (go_at_call 24; (first | with_reducible refine (unhide HXA _).mono ?_ | with_reducible refine (unhide HXB _).mono ?_); rintro e w' ⟨rfl, rfl⟩))
  all_goals
    go_wp2_with fail
    go_ret
    refine ⟨rfl, ?_, by repeat (first | exact Below.refl _ _ | refine ba ?_ _ | refine Below.drew ?_)⟩
    show ((w.alloc (.cells #[.int .i64 7, .int .i64 a, .int .i64 b, .int .i64 m] 35)).alloc (.cells #[.int .i64 (2 * a + 1), .int .i64 (2 * b + 1), .int .i64 m, .bool true] 58)).heap[w.heap.size + 1]? = _
    have h := heap_alloc_new (w.alloc (.cells #[.int .i64 7, .int .i64 a, .int .i64 b, .int .i64 m] 35)) (.cells #[.int .i64 (2 * a + 1), .int .i64 (2 * b + 1), .int .i64 m, .bool true] 58)
    simpa using h

set_option maxHeartbeats 2000000 in
theorem spans_8 (a b m : Int) (w : World) (a0 : 0 ≤ a) (a1 : a ≤ 24) (b0 : 0 ≤ b) (b1 : b ≤ 24) :
    Calls Try.prog 53 #[ruv (8, a, b, m)] w fun e w' => e = .returned (.slice (some ⟨w.heap.size + 1, 0, none⟩) 1 1) ∧ (w'.heap[w.heap.size + 1]? = some (.cells #[.int .i64 (2 * a + 2), .int .i64 (2 * b + 2), .int .i64 m, .bool true] 58)) ∧ Below w.heap.size w w' := by
  have HXA := hide (fun W => xOf_any a W a0 a1)
  have HXB := hide (fun W => xOf_any b W b0 b1)
  have HYA := hide (fun W => yOf_any a W a0 a1)
  have HYB := hide (fun W => yOf_any b W b0 b1)
  go_enter Try.func53, Try.ntmps53
  go_wp2_with fail
  go_region_held3 (fun wx => wx.cell? ⟨w.heap.size, 1, none⟩ = some (.int .i64 a) ∧ wx.cell? ⟨w.heap.size, 2, none⟩ = some (.int .i64 b) ∧ wx.cell? ⟨w.heap.size, 3, none⟩ = some (.int .i64 m))
    (simp (maxDischargeDepth := 12) [go_sem, le1, lt1, *])
    (first
    | (go_at_call 25; (first | with_reducible refine (unhide HYA _).mono ?_ | with_reducible refine (unhide HYB _).mono ?_); rintro e w' ⟨rfl, rfl⟩))
  all_goals
    go_wp2_with fail
    go_ret
    refine ⟨rfl, ?_, by repeat (first | exact Below.refl _ _ | refine ba ?_ _ | refine Below.drew ?_)⟩
    show ((w.alloc (.cells #[.int .i64 8, .int .i64 a, .int .i64 b, .int .i64 m] 35)).alloc (.cells #[.int .i64 (2 * a + 2), .int .i64 (2 * b + 2), .int .i64 m, .bool true] 58)).heap[w.heap.size + 1]? = _
    have h := heap_alloc_new (w.alloc (.cells #[.int .i64 8, .int .i64 a, .int .i64 b, .int .i64 m] 35)) (.cells #[.int .i64 (2 * a + 2), .int .i64 (2 * b + 2), .int .i64 m, .bool true] 58)
    simpa using h

set_option maxHeartbeats 2000000 in
theorem spans_9 (a b m : Int) (w : World) (a0 : 0 ≤ a) (a1 : a ≤ 24) (b0 : 0 ≤ b) (b1 : b ≤ 24) :
    Calls Try.prog 53 #[ruv (9, a, b, m)] w fun e w' => e = .returned (.slice (some ⟨w.heap.size + 1, 0, none⟩) 2 2) ∧ (w'.heap[w.heap.size + 1]? = some (.cells #[.int .i64 (2 * a + 1), .int .i64 (2 * b + 1), .int .i64 0, .bool true, .int .i64 (2 * a + 2), .int .i64 (2 * b + 2), .int .i64 0, .bool true] 58)) ∧ Below w.heap.size w w' := by
  have HXA := hide (fun W => xOf_any a W a0 a1)
  have HXB := hide (fun W => xOf_any b W b0 b1)
  have HYA := hide (fun W => yOf_any a W a0 a1)
  have HYB := hide (fun W => yOf_any b W b0 b1)
  go_enter Try.func53, Try.ntmps53
  go_wp2_with fail
  go_region_held3 (fun wx => wx.cell? ⟨w.heap.size, 1, none⟩ = some (.int .i64 a) ∧ wx.cell? ⟨w.heap.size, 2, none⟩ = some (.int .i64 b) ∧ wx.cell? ⟨w.heap.size, 3, none⟩ = some (.int .i64 m))
    (simp (maxDischargeDepth := 12) [go_sem, le1, lt1, *])
    (first
    | (go_at_call 24; (first | with_reducible refine (unhide HXA _).mono ?_ | with_reducible refine (unhide HXB _).mono ?_); rintro e w' ⟨rfl, rfl⟩)
    | (go_at_call 25; (first | with_reducible refine (unhide HYA _).mono ?_ | with_reducible refine (unhide HYB _).mono ?_); rintro e w' ⟨rfl, rfl⟩))
  all_goals
    go_wp2_with fail
    go_ret
    refine ⟨rfl, ?_, by repeat (first | exact Below.refl _ _ | refine ba ?_ _ | refine Below.drew ?_)⟩
    show ((w.alloc (.cells #[.int .i64 9, .int .i64 a, .int .i64 b, .int .i64 m] 35)).alloc (.cells #[.int .i64 (2 * a + 1), .int .i64 (2 * b + 1), .int .i64 0, .bool true, .int .i64 (2 * a + 2), .int .i64 (2 * b + 2), .int .i64 0, .bool true] 58)).heap[w.heap.size + 1]? = _
    have h := heap_alloc_new (w.alloc (.cells #[.int .i64 9, .int .i64 a, .int .i64 b, .int .i64 m] 35)) (.cells #[.int .i64 (2 * a + 1), .int .i64 (2 * b + 1), .int .i64 0, .bool true, .int .i64 (2 * a + 2), .int .i64 (2 * b + 2), .int .i64 0, .bool true] 58)
    simpa using h
end Go.Proofs.Ytchdmigeopmacaa
