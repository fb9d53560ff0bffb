/-
  What the laws ask of rows of whole numbers: that two are the same, that one is written over, that it is held.
-/
import Derived.Test.YtkkmikgeppkhiaaOwn
namespace Go.Proofs.Ytkkmikgeppkhiaa
open Go.ChangeShapes Go.WideShapes Go.ChangeAt Go.RowKit
set_option linter.unusedVariables false
set_option linter.unusedSimpArgs false

theorem get_some {α : Type} {ls : List α} {i n : Nat} (hl : ls.length = n) (h : i < n) : ∃ l, ls[i]? = some l := ⟨ls[i]'(by omega), List.getElem?_eq_getElem _⟩
theorem bel_dn' {B : Nat} {a w : World} (h : Below B a w) (n : Nat) : Below B a (w.drewN n) := h.trans ⟨rfl, rfl, rfl, Nat.le_refl _, fun _ _ => rfl⟩
/-- where a row of whole numbers lies -/
def Its (w : World) (u : Option Addr) (p po : Nat) (L : List Int) : Prop := L ≠ [] → u = some ⟨p, po, none⟩ ∧ p < w.heap.size ∧ IntsAt w p po L
theorem Its.bel {w w' : World} {u : Option Addr} {p po : Nat} {L : List Int} (h : Its w u p po L) (hb : Below w.heap.size w w') : Its w' u p po L :=
  fun h0 => ⟨(h h0).1, Nat.lt_of_lt_of_le (h h0).2.1 hb.size, (h h0).2.2.below hb (h h0).2.1⟩
theorem Its.at {w : World} {u : Option Addr} {p po : Nat} {L : List Int} (h : Its w u p po L) {i : Nat} {x : Int} (hx : L[i]? = some x) : u = some ⟨p, po, none⟩ ∧ p < w.heap.size ∧ w.cell? ⟨p, po + i, none⟩ = some (.int .i64 x) := by
  obtain ⟨h1, h2, h3⟩ := h (by intro e; subst e; cases hx)
  exact ⟨h1, h2, h3 i x hx⟩
theorem Its.but {w w' : World} {u : Option Addr} {g p po : Nat} {L : List Int} (h : Its w u p po L) (hb : But g w w') (hg : L ≠ [] → p ≠ g) : Its w' u p po L :=
  fun h0 => ⟨(h h0).1, Nat.lt_of_lt_of_le (h h0).2.1 (Nat.le_of_eq hb.size), fun j x hj => cell_but hb (hg h0) ((h h0).2.2 j x hj)⟩

end Go.Proofs.Ytkkmikgeppkhiaa
