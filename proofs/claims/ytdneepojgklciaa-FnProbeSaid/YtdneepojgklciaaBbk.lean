/-
  Blocks of bools.
-/
import Derived.Test.YtdneepojgklciaaRowX
namespace Go.Proofs.Ytdneepojgklciaa
open Go.ChangeShapes Go.WideShapes Go.ChangeAt Go.RowKit
set_option linter.unusedVariables false
set_option linter.unusedSimpArgs false

def vblk (w : World) (g t : Nat) (L : List Value) : Prop := w.heap[g]? = some (.cells L.toArray t (0, 0))
theorem vblk.cell {w : World} {g t : Nat} {L : List Value} (h : vblk w g t L) {m : Nat} {x : Value} (hx : L[m]? = some x) : w.cell? ⟨g, m, none⟩ = some x := by
  simp only [World.cell?]
  rw [h]
  simp [hx]
theorem vblk.lt {w : World} {g t : Nat} {L : List Value} (h : vblk w g t L) : g < w.heap.size := (Array.getElem?_eq_some_iff.1 h).1
theorem vblk.frozen {w : World} {g t : Nat} {L : List Value} (h : vblk w g t L) (o : Nat) : w.frozen? ⟨g, o, none⟩ = false := by
  simp only [World.frozen?]
  rw [h]
  simp
theorem vblk.below {B : Nat} {w w' : World} {g t : Nat} {L : List Value} (h : vblk w g t L) (hb : Below B w w') (hg : g < B) : vblk w' g t L := (hb.block g hg).trans h
theorem vblk.bel {w w' : World} {g t : Nat} {L : List Value} (h : vblk w g t L) (hb : Below w.heap.size w w') : vblk w' g t L := h.below hb h.lt
theorem vblk.set {w : World} {g t : Nat} {L : List Value} (h : vblk w g t L) (m : Nat) (x : Value) : vblk (w.setCell ⟨g, m, none⟩ x) g t (L.set m x) := by
  show (w.heap.modify g _)[g]? = _
  rw [Array.getElem?_modify, if_pos rfl, h]
  simp
theorem vblk.but {w w' : World} {g g' t : Nat} {L : List Value} (h : vblk w g t L) (hb : But g' w w') (hg : g ≠ g') : vblk w' g t L := (hb.block g hg).trans h
theorem vblk.same {w w' : World} {g t : Nat} {L : List Value} (h : vblk w g t L) (hb : Same w w') : vblk w' g t L := by unfold vblk; rw [hb.heap]; exact h
theorem vblk_new (W : World) (t : Nat) (L : List Value) : vblk (W.alloc (.cells L.toArray t)) W.heap.size t L := by
  show (W.heap.push _)[W.heap.size]? = _
  rw [Array.getElem?_push_size]

/-- a block of bools -/
def bblk (w : World) (g : Nat) (u : List Bool) : Prop := vblk w g 4 (u.map Value.bool)
theorem bblk.cell {w : World} {g : Nat} {u : List Bool} (h : bblk w g u) {i : Nat} {x : Bool} (hx : u[i]? = some x) : w.cell? ⟨g, i, none⟩ = some (.bool x) := vblk.cell h (by rw [List.getElem?_map, hx]; rfl)
theorem bblk.set {w : World} {g : Nat} {u : List Bool} (h : bblk w g u) (i : Nat) (x : Bool) : bblk (w.setCell ⟨g, i, none⟩ (.bool x)) g (u.set i x) := by
  unfold bblk
  rw [List.map_set]
  exact vblk.set h i _
theorem make_bools {P : Program} (t e : Nat) (n : Nat) (ht : P.underlying t = some (.slice e))
    (hi : (P.info? e).map (fun i => (i.zero, i.size, i.bytes)) = some (some (.bool false), 1, 1)) (hn : n ≤ 281474976710656) (W : World) :
    (Instr.makeSlice t (.int .i64 (n : Int)) (.int .i64 (n : Int))).run P W = .ok (.slice (some ⟨W.heap.size, 0, none⟩) n n) (W.alloc (.cells ((List.replicate n false).map Value.bool).toArray e)) := by
  cases hx : P.info? e with
  | none => rw [hx] at hi; simp at hi
  | some i =>
    rw [hx] at hi
    simp only [Option.map_some, Option.some.injEq, Prod.mk.injEq] at hi
    obtain ⟨h0, h1, h2⟩ := hi
    have := run_make (P := P) W t e i (.bool false) ht hx h0 .i64 .i64 n n (by omega) (by omega) (by rw [h2]; omega) (by omega)
    rw [Int.toNat_natCast, h1, Nat.mul_one] at this
    have e1 : madeCells (Value.bool false).cells n = ((List.replicate n false).map Value.bool).toArray := by
      apply Array.ext
      · simp [madeCells]
      · intro i h1 h2
        simp [madeCells, Value.cells, Nat.mod_one]
    rw [e1] at this
    exact this
end Go.Proofs.Ytdneepojgklciaa
