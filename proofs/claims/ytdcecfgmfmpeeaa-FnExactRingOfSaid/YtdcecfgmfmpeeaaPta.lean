/-
  A drawn point is a right one, whatever the code.
-/
import Derived.Test.YtdcecfgmfmpeeaaOwnX
import Derived.Test.YtdcecfgmfmpeeaaInv
namespace Go.Proofs.Ytdcecfgmfmpeeaa
open Go.ChangeShapes Go.WideShapes Go.ChangeAt Go.RowKit
set_option linter.unusedVariables false
set_option linter.unusedSimpArgs false

/-- on the way to a point: the source, what is kept, the point's own block -/
structure Ps (B g T : Nat) (k : Int) (w : World) (x y : Int) (W : World) : Prop where
  so : So B g k W
  mv : Mv g w W
  tb : W.heap[T]? = some (.cells #[.int .i64 x, .int .i64 y] 30)
  hT : w.heap.size ≤ T
  hg : g < w.heap.size
theorem Ps.lt {B g T : Nat} {k : Int} {w W : World} {x y : Int} (h : Ps B g T k w x y W) : T < W.heap.size := (Array.getElem?_eq_some_iff.1 h.tb).1
theorem Ps.up {B g T : Nat} {k k' : Int} {w W : World} {x y : Int} (h : Ps B g T k w x y W) (hk : k ≤ k') : Ps B g T k' w x y W := ⟨h.so.up hk, h.mv, h.tb, h.hT, h.hg⟩
theorem Ps.step {B g T : Nat} {k k' : Int} {w W W' : World} {x y : Int} (h : Ps B g T k w x y W) (hs : So B g k' W') (mv : Mv g W W') : Ps B g T k' w x y W' :=
  ⟨hs, h.mv.trans mv, (mv.block _ h.lt (by have := h.hT; have := h.hg; omega)).trans h.tb, h.hT, h.hg⟩
theorem Ps.bel {B g T : Nat} {k : Int} {w W W' : World} {x y : Int} (h : Ps B g T k w x y W) (hb : Below W.heap.size W W') : Ps B g T k w x y W' := h.step (h.so.bel hb) (Mv.of_bel hb)
theorem Ps.alloc {B g T : Nat} {k : Int} {w W : World} {x y : Int} (h : Ps B g T k w x y W) (o : Obj) : Ps B g T k w x y (W.alloc o) := h.bel (ba (Below.refl _ _) o)
theorem Ps.drew {B g T : Nat} {k : Int} {w W : World} {x y : Int} (h : Ps B g T k w x y W) : Ps B g T k w x y W.drew := h.bel (Below.drew (Below.refl _ _))
theorem Ps.put {B g T : Nat} {k k' : Int} {w W : World} {x y : Int} (h : Ps B g T k w x y W) (X Y : Int) (hk : k ≤ k') : Ps B g T k' w X Y ((W.setCell ⟨T, 0, none⟩ (.int .i64 X)).setCell ⟨T, 1, none⟩ (.int .i64 Y)) := by
  have h1 := h.hT
  have h2 := h.hg
  have h3 := h.so.above
  exact ⟨((h.so.set (by omega) (by omega) _ _).set (by omega) (by omega) _ _).up hk, (h.mv.new h1 _ _).new h1 _ _, pair_set h.tb, h1, h2⟩
theorem three_ok (i : Nat) (h : i < 3) : -100000 ≤ gt [100000, -100000, 0] i ∧ gt [100000, -100000, 0] i ≤ 100000 := by
  have hi : i = 0 ∨ i = 1 ∨ i = 2 := by omega
  rcases hi with rfl | rfl | rfl <;> decide
end Go.Proofs.Ytdcecfgmfmpeeaa
