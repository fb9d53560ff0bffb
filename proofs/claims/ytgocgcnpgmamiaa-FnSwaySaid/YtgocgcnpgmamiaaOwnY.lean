/-
  Rows of one's own while a source of choices moves on.
-/
import Derived.Test.YtgocgcnpgmamiaaRowX
import Derived.Test.YtgocgcnpgmamiaaSou
namespace Go.Proofs.Ytgocgcnpgmamiaa
open Go.ChangeShapes Go.WideShapes Go.ChangeAt Go.RowKit
set_option linter.unusedVariables false
set_option linter.unusedSimpArgs false

theorem Row.mv {w w' : World} {B t k n g : Nat} {v : Value} {L : List Int} (h : Row w B t k v n L) (hb : Mv g w w') (hg : g < B) : Row w' B t k v n L :=
  h.kept' (fun b hb' => by have := World.ownsRow.lt h b hb'; exact hb.block b this.2 (by omega))
theorem So.belB {B g C : Nat} {k : Int} {w w' : World} (h : So B g k w) (hb : Below C w w') (hg : g < C) : So B g k w' := by
  have := h.above
  exact h.kept (fun b _ h2 => hb.block b (by omega)) hb.size
theorem Mv.belB {g C : Nat} {w W w' : World} (x : Mv g w W) (hb : Below C W w') (hC : w.heap.size ≤ C) : Mv g w w' :=
  ⟨hb.os.trans x.os, hb.tape.trans x.tape, hb.output.trans x.output, Nat.le_trans x.size hb.size, fun k hk h1 => (hb.block k (by omega)).trans (x.block k hk h1)⟩
end Go.Proofs.Ytgocgcnpgmamiaa
