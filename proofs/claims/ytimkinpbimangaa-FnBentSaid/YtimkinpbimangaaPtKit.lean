/-
  Rows of points in the laws: where they lie, what marks leave of others.
-/
import Derived.Test.YtimkinpbimangaaMarkR
import Derived.Test.YtimkinpbimangaaItL
namespace Go.Proofs.Ytimkinpbimangaa
open Go.ChangeShapes Go.WideShapes Go.ChangeAt Go.RowKit
set_option linter.unusedVariables false
set_option linter.unusedSimpArgs false

def bo (u : Option Addr) : Nat := match u with | some a => a.block | none => 0
theorem Row.pts {X : World} {B m cc t k : Nat} {u : Option Addr} {F : List Int} (h : Row X B t k (.slice u m cc) m F) : m ≠ 0 → u = some ⟨bo u, 0, none⟩ ∧ bo u < X.heap.size ∧ IntsAt X (bo u) 0 F := by
  intro h0
  obtain ⟨u', c', hv, hf⟩ := h.form
  cases hv
  obtain ⟨g, rfl, h1, h2, h3⟩ := hf h0
  exact ⟨rfl, h2, h3⟩
theorem Row.but {X X' : World} {B t k m g : Nat} {v : Value} {F : List Int} (h : Row X B t k v m F) (hb : But g X X') (hg : ∀ b, v.ownBlock = some b → b ≠ g) : Row X' B t k v m F :=
  h.kept' fun b hbb => hb.block b (hg b hbb)
theorem Row.olt {X : World} {B t k m : Nat} {v : Value} {F : List Int} (h : Row X B t k v m F) : ∀ b, v.ownBlock = some b → B ≤ b ∧ b < X.heap.size := fun b hb => h.lt b hb
theorem Row.its {X : World} {B m cc : Nat} {u : Option Addr} {F : List Int} (h : Row X B 3 1 (.slice u m cc) m F) : Its X u (bo u) 0 F := by
  intro h0
  refine h.pts ?_
  intro e
  subst e
  exact h0 (List.eq_nil_of_length_eq_zero (by have := h.len; omega))
end Go.Proofs.Ytimkinpbimangaa
