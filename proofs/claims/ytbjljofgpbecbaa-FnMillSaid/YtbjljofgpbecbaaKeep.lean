/-
  Blocks and fields that stay as they are while new memory is made.
-/
import Derived.Test.YtbjljofgpbecbaaUnd
namespace Go.Proofs.Ytbjljofgpbecbaa
open Go.ChangeShapes Go.WideShapes Go.ChangeAt Go.RowKit
set_option linter.unusedVariables false
set_option linter.unusedSimpArgs false

structure Keep (w : World) (vs : List (Nat × Nat × List Value)) (fs : List (Nat × Nat × Nat × Nat × List Int)) (X : World) : Prop where
  bel : Below w.heap.size w X
  v : ∀ b ∈ vs, vb X b.1 b.2.1 b.2.2
  f : ∀ q ∈ fs, Fd X q.1 q.2.1 q.2.2.1 q.2.2.2.1 q.2.2.2.2
theorem Keep.next {w X X' : World} {vs : List (Nat × Nat × List Value)} {fs : List (Nat × Nat × Nat × Nat × List Int)} (h : Keep w vs fs X) (hb : Below X.heap.size X X') : Keep w vs fs X' :=
  ⟨bc h.bel hb, fun b hb' => (h.v b hb').bel hb, fun q hq => (h.f q hq).bel hb⟩
theorem Keep.addv {w X : World} {vs : List (Nat × Nat × List Value)} {fs : List (Nat × Nat × Nat × Nat × List Int)} (h : Keep w vs fs X) {b t : Nat} {L : List Value} (hv : vb X b t L) : Keep w ((b, t, L) :: vs) fs X := by
  refine ⟨h.bel, fun b' hb => ?_, h.f⟩
  rcases List.mem_cons.1 hb with rfl | hb
  · exact hv
  · exact h.v b' hb
theorem Keep.addf {w X : World} {vs : List (Nat × Nat × List Value)} {fs : List (Nat × Nat × Nat × Nat × List Int)} (h : Keep w vs fs X) {g po n c : Nat} {L : List Int} (hf : Fd X g po n c L) : Keep w vs ((g, po, n, c, L) :: fs) X := by
  refine ⟨h.bel, h.v, fun q hq => ?_⟩
  rcases List.mem_cons.1 hq with rfl | hq
  · exact hf
  · exact h.f q hq
theorem Keep.vat {w X : World} {vs : List (Nat × Nat × List Value)} {fs : List (Nat × Nat × Nat × Nat × List Int)} (h : Keep w vs fs X) (i : Nat) {b t : Nat} {L : List Value} (hi : vs[i]? = some (b, t, L)) : vb X b t L := h.v _ (List.mem_of_getElem? hi)
theorem Keep.fat {w X : World} {vs : List (Nat × Nat × List Value)} {fs : List (Nat × Nat × Nat × Nat × List Int)} (h : Keep w vs fs X) (i : Nat) {g po n c : Nat} {L : List Int} (hi : fs[i]? = some (g, po, n, c, L)) : Fd X g po n c L := h.f _ (List.mem_of_getElem? hi)
end Go.Proofs.Ytbjljofgpbecbaa
