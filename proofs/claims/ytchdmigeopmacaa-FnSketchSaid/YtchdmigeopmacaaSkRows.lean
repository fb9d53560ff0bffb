/-
  What the laws ask of sketches: how great one is, that it is made of another, that two are the same.
-/
import Derived.Test.YtchdmigeopmacaaRuRows
import Derived.Test.YtchdmigeopmacaaOkP
namespace Go.Proofs.Ytchdmigeopmacaa
open Go.ChangeShapes Go.WideShapes Go.ChangeAt Go.RowKit
set_option linter.unusedVariables false
set_option linter.unusedSimpArgs false

theorem bel_iblk {w w' : World} (hb : Below w.heap.size w w') {g t : Nat} {L : List Int} (h : iblk w g t L) : iblk w' g t L := h.bel hb
/-- the numbers in fours -/
def toRus (L : List Int) (n : Nat) : List Ru := (List.range n).map fun i => (L.getD (i * 4) 0, L.getD (i * 4 + 1) 0, L.getD (i * 4 + 2) 0, L.getD (i * 4 + 3) 0)
theorem toRus_len (L : List Int) (n : Nat) : (toRus L n).length = n := by simp [toRus]
theorem rusAt_of {w : World} {g : Nat} {L : List Int} {n : Nat} (h : iblk w g 35 L) (hl : L.length = n * 4) : RusAt w g 0 (toRus L n) := by
  intro j p hj
  have hjn : j < n := by
    have := (List.getElem?_eq_some_iff.1 hj).1
    simpa [toRus] using this
  unfold toRus at hj
  rw [List.getElem?_map, List.getElem?_range hjn] at hj
  simp only [Option.map_some, Option.some.injEq] at hj
  rw [← hj, Nat.zero_add]
  have hx : ∀ f, f < 4 → L[j * 4 + f]? = some (L.getD (j * 4 + f) 0) := fun f hf => by rw [List.getD_eq_getElem?_getD, List.getElem?_eq_getElem (by omega)]; rfl
  exact ⟨h.cell (hx 0 (by omega)), h.cell (hx 1 (by omega)), h.cell (hx 2 (by omega)), h.cell (hx 3 (by omega))⟩

end Go.Proofs.Ytchdmigeopmacaa
