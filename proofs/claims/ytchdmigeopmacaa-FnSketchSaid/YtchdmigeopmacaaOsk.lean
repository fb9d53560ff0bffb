/-
  A drawn sketch with something odd in it, and a right sketch, whatever the code.
-/
import Derived.Test.YtchdmigeopmacaaSkdT
import Derived.Test.YtchdmigeopmacaaCoreMath
namespace Go.Proofs.Ytchdmigeopmacaa
open Go.ChangeShapes Go.WideShapes Go.ChangeAt Go.RowKit
set_option linter.unusedVariables false
set_option linter.unusedSimpArgs false

/-- a sketch that lies in a block -/
def sblk (W : World) (T : Nat) (n : Int) (v : Value) : Prop := W.heap[T]? = some (.cells #[.int .i64 n, v] 25)
theorem sblk.c0 {W : World} {T : Nat} {n : Int} {v : Value} (h : sblk W T n v) : W.cell? ⟨T, 0, none⟩ = some (.int .i64 n) := by
  unfold sblk at h
  simp [World.cell?, h]
theorem sblk.c1 {W : World} {T : Nat} {n : Int} {v : Value} (h : sblk W T n v) : W.cell? ⟨T, 1, none⟩ = some v := by
  unfold sblk at h
  simp [World.cell?, h]
theorem sblk.frz {W : World} {T : Nat} {n : Int} {v : Value} (h : sblk W T n v) (o : Nat) : W.frozen? ⟨T, o, none⟩ = false := by
  unfold sblk at h
  simp [World.frozen?, h]
theorem sblk.lt {W : World} {T : Nat} {n : Int} {v : Value} (h : sblk W T n v) : T < W.heap.size := (Array.getElem?_eq_some_iff.1 h).1
theorem sblk.set0 {W : World} {T : Nat} {n : Int} {v : Value} (h : sblk W T n v) (x : Int) : sblk (W.setCell ⟨T, 0, none⟩ (.int .i64 x)) T x v := by
  show (W.heap.modify T _)[T]? = _
  rw [Array.getElem?_modify, if_pos rfl, h]
  simp
theorem sblk.set1 {W : World} {T : Nat} {n : Int} {v : Value} (h : sblk W T n v) (x : Value) : sblk (W.setCell ⟨T, 1, none⟩ x) T n x := by
  show (W.heap.modify T _)[T]? = _
  rw [Array.getElem?_modify, if_pos rfl, h]
  simp
theorem sblk_new (W : World) (n : Int) (v : Value) : sblk (W.alloc (.cells #[.int .i64 n, v] 25)) W.heap.size n v := heap_alloc_new W _
theorem sblk.kept {W W' : World} {T : Nat} {n : Int} {v : Value} (h : sblk W T n v) (hb : W'.heap[T]? = W.heap[T]?) : sblk W' T n v := hb.trans h
/-- a row of rules is no sketch -/
theorem row_ne {W : World} {B T m : Nat} {n : Int} {v x : Value} {L : List Int} (hr : Row W B 35 4 v m L) (h : sblk W T n x) : ∀ b, v.ownBlock = some b → b ≠ T := by
  intro b hb e
  subst e
  rcases hr.2 with ⟨hv, _⟩ | ⟨g, cap, cur, hv, hB, hh, _⟩
  · rw [hv] at hb
    cases hb
  · rw [hv] at hb
    have : g = b := by simpa [Value.ownBlock] using hb
    subst this
    unfold sblk at h
    rw [hh] at h
    simp at h

structure Sto (B g T : Nat) (n k : Int) (w0 : World) (v : Value) (m : Nat) (L : List Int) (W : World) : Prop where
  so : So B g k W
  mv : Mv g w0 W
  res : sblk W w0.heap.size 0 (.slice none 0 0)
  tb : sblk W T n v
  row : Row W (w0.heap.size + 1) 35 4 v m L
  hT : w0.heap.size < T
  hg : g < w0.heap.size
theorem Sto.up {B g T m : Nat} {n k k' : Int} {w0 W : World} {v : Value} {L : List Int} (h : Sto B g T n k w0 v m L W) (hk : k ≤ k') : Sto B g T n k' w0 v m L W := ⟨h.so.up hk, h.mv, h.res, h.tb, h.row, h.hT, h.hg⟩
theorem Sto.step {B g T m : Nat} {n k k' : Int} {w0 W W' : World} {v : Value} {L : List Int} (h : Sto B g T n k w0 v m L W) (hs : So B g k' W') (mv : Mv g W W') : Sto B g T n k' w0 v m L W' := by
  have h1 := h.hg
  have h2 := h.hT
  exact ⟨hs, h.mv.trans mv, h.res.kept (mv.block _ h.res.lt (by omega)), h.tb.kept (mv.block _ h.tb.lt (by omega)), h.row.mv mv (by omega), h.hT, h.hg⟩
theorem Sto.bel {B g T m : Nat} {n k : Int} {w0 W W' : World} {v : Value} {L : List Int} (h : Sto B g T n k w0 v m L W) (hb : Below W.heap.size W W') : Sto B g T n k w0 v m L W' := h.step (h.so.bel hb) (Mv.of_bel hb)
theorem Sto.alloc {B g T m : Nat} {n k : Int} {w0 W : World} {v : Value} {L : List Int} (h : Sto B g T n k w0 v m L W) (o : Obj) : Sto B g T n k w0 v m L (W.alloc o) := h.bel (ba (Below.refl _ _) o)
theorem Sto.drew {B g T m : Nat} {n k : Int} {w0 W : World} {v : Value} {L : List Int} (h : Sto B g T n k w0 v m L W) : Sto B g T n k w0 v m L W.drew := h.bel (Below.drew (Below.refl _ _))
theorem Sto.dn {B g T m : Nat} {n k : Int} {w0 W : World} {v : Value} {L : List Int} (h : Sto B g T n k w0 v m L W) (q : Nat) : Sto B g T n k w0 v m L (W.drewN q) := h.bel ⟨rfl, rfl, rfl, Nat.le_refl _, fun _ _ => rfl⟩
theorem Sto.setN {B g T m : Nat} {n k : Int} {w0 W : World} {v : Value} {L : List Int} (h : Sto B g T n k w0 v m L W) (x : Int) : Sto B g T x k w0 v m L (W.setCell ⟨T, 0, none⟩ (.int .i64 x)) := by
  have h1 := h.hg
  have h2 := h.hT
  have h3 := h.so.above
  have hne : ∀ b, b ≠ T → (W.setCell ⟨T, 0, none⟩ (.int .i64 x)).heap[b]? = W.heap[b]? := fun b hb => Below.heap_setCell _ _ _ _ hb
  exact ⟨h.so.set (by omega) (by omega) _ _, h.mv.new (by omega) _ _, h.res.kept (hne _ (by omega)), h.tb.set0 x, h.row.kept' (fun b hb => hne b (row_ne h.row h.tb b hb)), h2, h1⟩
/-- behind an append -/
theorem Sto.app {B g T m m' : Nat} {n k : Int} {w0 W W2 w1 : World} {v v' : Value} {L L' : List Int} (h : Sto B g T n k w0 v m L W) (hb : Below W.heap.size W W2) (hr : Row w1 (w0.heap.size + 1) 35 4 v' m' L') (hg : W2.grownBy w1 v.ownBlock) :
    sblk w1 T n v ∧ sblk w1 w0.heap.size 0 (.slice none 0 0) ∧ Sto B g T n k w0 v' m' L' (w1.setCell ⟨T, 1, none⟩ v') := by
  have h1 := h.hg
  have h2 := h.hT
  have h3 := h.so.above
  have k2 := h.bel hb
  have ho := row_ne k2.row k2.tb
  have hl : ∀ b, v.ownBlock = some b → w0.heap.size + 1 ≤ b := fun b hb' => (World.ownsRow.lt k2.row b hb').1
  have hkp : ∀ b, b < W2.heap.size → (b ≤ w0.heap.size ∨ b = T) → w1.heap[b]? = W2.heap[b]? := fun b hb1 hb2 => hg.block b hb1 (by
    intro e
    have := hl b e.symm
    have := ho b e.symm
    omega)
  have tb1 : sblk w1 T n v := k2.tb.kept (hkp T k2.tb.lt (.inr rfl))
  have hne : ∀ b, b ≠ T → (w1.setCell ⟨T, 1, none⟩ v').heap[b]? = w1.heap[b]? := fun b hb => Below.heap_setCell _ _ _ _ hb
  have so1 : So B g k w1 := k2.so.kept (fun b hb1 hb2 => hkp b hb1 (by omega)) hg.size
  have mv1 : Mv g w0 w1 := ⟨hg.os.trans k2.mv.os, hg.tape.trans k2.mv.tape, hg.output.trans k2.mv.output, Nat.le_trans k2.mv.size hg.size, fun b hb1 hb2 => (hkp b (Nat.lt_of_lt_of_le hb1 k2.mv.size) (by omega)).trans (k2.mv.block b hb1 hb2)⟩
  exact ⟨tb1, k2.res.kept (hkp _ k2.res.lt (by omega)), so1.set (by omega) (by omega) _ _, mv1.new (by omega) _ _, (k2.res.kept (hkp _ k2.res.lt (by omega))).kept (hne _ (by omega)), tb1.set1 _, hr.kept' (fun b hb' => hne b (row_ne hr tb1 b hb')), h2, h1⟩
end Go.Proofs.Ytchdmigeopmacaa
