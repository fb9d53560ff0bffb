/-
  A fraction carried over field by field, its memory told to the cell.
-/
import Derived.Test.YtkngablknapkgaaAdd
import Derived.Deep.RegionHeld3
namespace Go.Proofs.Ytkngablknapkgaa
open Go.ChangeShapes Go.WideShapes Go.ChangeAt Go.RowKit
set_option linter.unusedVariables false

set_option maxHeartbeats 400000 in
theorem toFrac_exact (n d : Int) (w : World) :
    Calls Try.prog 10 #[.agg #[.int .i64 n, .int .i64 d]] w fun e w' => e = .returned (.agg #[.int .i64 n, .int .i64 d]) ∧ w' = ((w.alloc (.cells #[.int .i64 n, .int .i64 d] 23)).alloc (.cells #[.int .i64 n, .int .i64 d] 25)).alloc (.cells #[.int .i64 n, .int .i64 d] 25) := by
  go_enter Try.func10, Try.ntmps10
  go_wp2
  exact bodyPost_ret (v := .agg #[.int .i64 n, .int .i64 d]) (by simp [results, Try.results10, go_sem]) rfl ⟨rfl, by simp [go_sem]⟩

theorem ka {W : World} {o : Obj} {b f : Nat} {v : Value} (h : W.cell? ⟨b, f, none⟩ = some v) : (W.alloc o).cell? ⟨b, f, none⟩ = some v := by
  have hl := cell_lt h
  rw [← h]
  exact World.cell?_alloc_past (w := W) o b f hl
theorem kd {W : World} {b f : Nat} {v : Value} (h : W.cell? ⟨b, f, none⟩ = some v) : W.drew.cell? ⟨b, f, none⟩ = some v := h
theorem ks {W : World} {b f c g : Nat} {v x : Value} (hne : b ≠ c) (h : W.cell? ⟨b, f, none⟩ = some v) : (W.setCell ⟨c, g, none⟩ x).cell? ⟨b, f, none⟩ = some v := by
  exact (World.cell?_setCell_far W ⟨c, g, none⟩ ⟨b, f, none⟩ x (fun e => hne e.symm)).trans h

theorem le1 {b n k : Nat} (h : b ≤ n) : b ≤ n + k := Nat.le_trans h (Nat.le_add_right n k)
theorem lt1 {b n k : Nat} (h : b < n) : b < n + k := Nat.lt_of_lt_of_le h (Nat.le_add_right n k)

theorem pair_form (n0 d0 n1 d1 x y : Int) : ∃ X Y C : Int, pairAns n0 d0 n1 d1 x y = .tuple #[.agg #[.int .i64 X, .int .i64 Y], .int .i64 C] := by
  unfold pairAns
  split
  · exact ⟨_, _, _, rfl⟩
  · exact ⟨0, 0, 1, rfl⟩
theorem less_form (n0 d0 n1 d1 : Int) : ∃ (t : Bool) (C : Int), lessAns n0 d0 n1 d1 = .tuple #[.bool t, .int .i64 C] := by
  unfold lessAns
  split
  · exact ⟨_, _, rfl⟩
  · exact ⟨false, 1, rfl⟩
end Go.Proofs.Ytkngablknapkgaa
