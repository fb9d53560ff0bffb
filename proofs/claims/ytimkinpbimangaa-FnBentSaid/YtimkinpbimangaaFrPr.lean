/-
  A fraction carried over field by field, its memory told to the cell.
-/
import Derived.Test.YtimkinpbimangaaFrAd
import Derived.Deep.RegionHeld3
namespace Go.Proofs.Ytimkinpbimangaa
open Go.ChangeShapes Go.WideShapes Go.ChangeAt Go.RowKit
set_option linter.unusedVariables false

theorem kd {W : World} {b f : Nat} {v : Value} (h : W.cell? ⟨b, f, none⟩ = some v) : W.drew.cell? ⟨b, f, none⟩ = some v := h
theorem ks {W : World} {b f c g : Nat} {v x : Value} (hne : b ≠ c) (h : W.cell? ⟨b, f, none⟩ = some v) : (W.setCell ⟨c, g, none⟩ x).cell? ⟨b, f, none⟩ = some v := by
  exact (World.cell?_setCell_far W ⟨c, g, none⟩ ⟨b, f, none⟩ x (fun e => hne e.symm)).trans h

theorem pair_form (n0 d0 n1 d1 x y : Int) : ∃ X Y C : Int, pairAns n0 d0 n1 d1 x y = .tuple #[.agg #[.int .i64 X, .int .i64 Y], .int .i64 C] := by
  unfold pairAns
  split
  · exact ⟨_, _, _, rfl⟩
  · exact ⟨0, 0, 1, rfl⟩
theorem less_form (n0 d0 n1 d1 : Int) : ∃ (t : Bool) (C : Int), lessAns n0 d0 n1 d1 = .tuple #[.bool t, .int .i64 C] := by
  unfold lessAns
  split
  · exact ⟨_, _, rfl⟩
  · exact ⟨false, 1, rfl⟩
end Go.Proofs.Ytimkinpbimangaa
