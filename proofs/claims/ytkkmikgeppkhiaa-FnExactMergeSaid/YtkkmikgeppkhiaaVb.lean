/-
  Blocks of any cells, kept and written over.
-/
import Derived.Test.YtkkmikgeppkhiaaItRows
namespace Go.Proofs.Ytkkmikgeppkhiaa
open Go.ChangeShapes Go.WideShapes Go.ChangeAt Go.RowKit
set_option linter.unusedVariables false
set_option linter.unusedSimpArgs false

/-- a block of these cells -/
def vb (w : World) (g t : Nat) (vs : List Value) : Prop := w.heap[g]? = some (.cells vs.toArray t (0, 0))
theorem vb.cell {w : World} {g t : Nat} {vs : List Value} (h : vb w g t vs) {m : Nat} {x : Value} (hx : vs[m]? = some x) : w.cell? ⟨g, m, none⟩ = some x := by
  simp only [World.cell?]
  rw [h]
  simp [hx]
theorem vb.lt {w : World} {g t : Nat} {vs : List Value} (h : vb w g t vs) : g < w.heap.size := (Array.getElem?_eq_some_iff.1 h).1
theorem vb.frozen {w : World} {g t : Nat} {vs : List Value} (h : vb w g t vs) (o : Nat) : w.frozen? ⟨g, o, none⟩ = false := by
  simp only [World.frozen?]
  rw [h]
  simp
theorem vb.below {B : Nat} {w w' : World} {g t : Nat} {vs : List Value} (h : vb w g t vs) (hb : Below B w w') (hg : g < B) : vb w' g t vs := (hb.block g hg).trans h
theorem vb.bel {w w' : World} {g t : Nat} {vs : List Value} (h : vb w g t vs) (hb : Below w.heap.size w w') : vb w' g t vs := h.below hb h.lt
theorem vb.set {w : World} {g t : Nat} {vs : List Value} (h : vb w g t vs) (m : Nat) (x : Value) : vb (w.setCell ⟨g, m, none⟩ x) g t (vs.set m x) := by
  show (w.heap.modify g _)[g]? = _
  rw [Array.getElem?_modify, if_pos rfl, h]
  simp
theorem vb.ne {w : World} {g g' o t : Nat} {vs : List Value} {x : Value} (h : vb w g t vs) (hg : g ≠ g') : vb (w.setCell ⟨g', o, none⟩ x) g t vs := (Below.heap_setCell _ _ _ _ hg).trans h
theorem vb_new (W : World) (t : Nat) (vs : List Value) (g : Nat) (hg : g = W.heap.size) : vb (W.alloc (.cells vs.toArray t)) g t vs := by
  subst hg
  show (W.heap.push _)[W.heap.size]? = _
  rw [Array.getElem?_push_size]
theorem iblk.ne {w : World} {g g' o t : Nat} {L : List Int} {x : Value} (h : iblk w g t L) (hg : g ≠ g') : iblk (w.setCell ⟨g', o, none⟩ x) g t L := (Below.heap_setCell _ _ _ _ hg).trans h
theorem vb_new1 (W : World) (t : Nat) (vs : List Value) (o : Obj) : vb ((W.alloc (.cells vs.toArray t)).alloc o) W.heap.size t vs := (vb_new W t vs _ rfl).bel (ba (Below.refl _ _) _)
theorem vb_new2 (W : World) (t : Nat) (vs : List Value) (o : Obj) : vb ((W.alloc o).alloc (.cells vs.toArray t)) (W.heap.size + 1) t vs := vb_new _ t vs _ (by simp)
end Go.Proofs.Ytkkmikgeppkhiaa
