/-
  Rows of whole numbers in memory: where they lie, what is written over, and that all else stays.
-/
import Derived.Test.YtkkmikgeppkhiaaBase
namespace Go.Proofs.Ytkkmikgeppkhiaa
open Go.ChangeShapes Go.WideShapes Go.ChangeAt Go.RowKit
set_option linter.unusedVariables false

/-- the numbers lie in the cells from off on -/
def IntsAt (w : World) (b off : Nat) (L : List Int) : Prop := ∀ (j : Nat) (x : Int), L[j]? = some x → w.cell? ⟨b, off + j, none⟩ = some (.int .i64 x)
/-- the block is just these numbers -/
def iblk (w : World) (g t : Nat) (L : List Int) : Prop := w.heap[g]? = some (.cells (L.map (Value.int .i64)).toArray t (0, 0))
theorem iblk.ints {w : World} {g t : Nat} {L : List Int} (h : iblk w g t L) : IntsAt w g 0 L := by
  intro j x hj
  simp only [World.cell?]
  rw [h]
  simp [hj]
theorem iblk.cell {w : World} {g t : Nat} {L : List Int} (h : iblk w g t L) {m : Nat} {x : Int} (hx : L[m]? = some x) : w.cell? ⟨g, m, none⟩ = some (.int .i64 x) := by
  simp only [World.cell?]
  rw [h]
  simp [hx]
theorem iblk.lt {w : World} {g t : Nat} {L : List Int} (h : iblk w g t L) : g < w.heap.size := (Array.getElem?_eq_some_iff.1 h).1
theorem iblk.frozen {w : World} {g t : Nat} {L : List Int} (h : iblk w g t L) (o : Nat) : w.frozen? ⟨g, o, none⟩ = false := by
  simp only [World.frozen?]
  rw [h]
  simp
theorem iblk.below {B : Nat} {w w' : World} {g t : Nat} {L : List Int} (h : iblk w g t L) (hb : Below B w w') (hg : g < B) : iblk w' g t L := (hb.block g hg).trans h
theorem iblk.bel {w w' : World} {g t : Nat} {L : List Int} (h : iblk w g t L) (hb : Below w.heap.size w w') : iblk w' g t L := h.below hb h.lt
theorem iblk.set {w : World} {g t : Nat} {L : List Int} (h : iblk w g t L) (m : Nat) (x : Int) : iblk (w.setCell ⟨g, m, none⟩ (.int .i64 x)) g t (L.set m x) := by
  show (w.heap.modify g _)[g]? = _
  rw [Array.getElem?_modify, if_pos rfl, h]
  simp [List.map_set]
theorem IntsAt.below {B : Nat} {w w' : World} {b off : Nat} {L : List Int} (h : IntsAt w b off L) (hb : Below B w w') (hB : b < B) : IntsAt w' b off L :=
  fun j x hj => (hb.cell (p := ⟨b, _, none⟩) hB).trans (h j x hj)
theorem IntsAt.at {w : World} {b off : Nat} {L : List Int} (h : IntsAt w b off L) {k i f : Nat} {x : Int} (hj : L[i * k + f]? = some x) : w.cell? ⟨b, off + i * k + f, none⟩ = some (.int .i64 x) := by
  have := h (i * k + f) x hj
  rw [← Nat.add_assoc] at this
  exact this
theorem IntsAt.at0 {w : World} {b off : Nat} {L : List Int} (h : IntsAt w b off L) {k i : Nat} {x : Int} (hj : L[i * k]? = some x) : w.cell? ⟨b, off + i * k, none⟩ = some (.int .i64 x) := h (i * k) x hj

/-- nothing is changed but that an order was drawn -/
structure Same (w w' : World) : Prop where
  os : w'.os = w.os
  tape : w'.tape = w.tape
  output : w'.output = w.output
  heap : w'.heap = w.heap
theorem Same.refl (w : World) : Same w w := ⟨rfl, rfl, rfl, rfl⟩
theorem Same.drew {a w : World} (h : Same a w) : Same a w.drew := ⟨h.os, h.tape, h.output, h.heap⟩
theorem Same.trans {a b c : World} (h : Same a b) (k : Same b c) : Same a c := ⟨k.os.trans h.os, k.tape.trans h.tape, k.output.trans h.output, k.heap.trans h.heap⟩
theorem Same.bel {B : Nat} {w w' : World} (h : Same w w') : Below B w w' := ⟨h.os, h.tape, h.output, Nat.le_of_eq (by rw [h.heap]), fun k _ => by rw [h.heap]⟩
theorem Same.cell {w w' : World} (h : Same w w') (a : Addr) : w'.cell? a = w.cell? a := by simp only [World.cell?, h.heap]
theorem Same.iblk {w w' : World} (h : Same w w') {g t : Nat} {L : List Int} (k : iblk w g t L) : iblk w' g t L := by unfold Go.Proofs.Ytkkmikgeppkhiaa.iblk; rw [h.heap]; exact k
/-- all but one block is as it was -/
structure But (g : Nat) (w w' : World) : Prop where
  os : w'.os = w.os
  tape : w'.tape = w.tape
  output : w'.output = w.output
  size : w.heap.size = w'.heap.size
  block : ∀ k, k ≠ g → w'.heap[k]? = w.heap[k]?
theorem But.refl (g : Nat) (w : World) : But g w w := ⟨rfl, rfl, rfl, rfl, fun _ _ => rfl⟩
theorem But.trans {g : Nat} {a b c : World} (h : But g a b) (k : But g b c) : But g a c :=
  ⟨k.os.trans h.os, k.tape.trans h.tape, k.output.trans h.output, h.size.trans k.size, fun i hi => (k.block i hi).trans (h.block i hi)⟩
theorem But.drew {g : Nat} {a w : World} (h : But g a w) : But g a w.drew := ⟨h.os, h.tape, h.output, h.size, h.block⟩
theorem But.setCell {g : Nat} {a w : World} (h : But g a w) (o : Nat) (u : Value) : But g a (w.setCell ⟨g, o, none⟩ u) :=
  h.trans ⟨rfl, rfl, rfl, by simp [World.setCell], fun k hk => Below.heap_setCell _ _ _ _ hk⟩
theorem But.bel {g B : Nat} {w w' : World} (h : But g w w') (hB : B ≤ g) : Below B w w' :=
  ⟨h.os, h.tape, h.output, Nat.le_of_eq h.size, fun k hk => h.block k (by omega)⟩
theorem But.same {g : Nat} {a b c : World} (h : But g a b) (k : Same b c) : But g a c := h.trans ⟨k.os, k.tape, k.output, by rw [k.heap], fun i _ => by rw [k.heap]⟩
theorem iblk.but {w w' : World} {g g' t : Nat} {L : List Int} (h : iblk w g t L) (hb : But g' w w') (hg : g ≠ g') : iblk w' g t L := (hb.block g hg).trans h
theorem cell_but {w w' : World} {g b o : Nat} {v : Value} (hb : But g w w') (hg : b ≠ g) (h : w.cell? ⟨b, o, none⟩ = some v) : w'.cell? ⟨b, o, none⟩ = some v :=
  (World.cell?_of_block (w := w) (a := ⟨b, o, none⟩) (hb.block b hg)).trans h

/-- numbers one after another -/
def marks (k : Int) (m : Nat) : List Int := (List.range m).map fun j : Nat => k + (j : Int)
theorem marks_len (k : Int) (m : Nat) : (marks k m).length = m := by simp [marks]
theorem marks_at (k : Int) (m j : Nat) (h : j < m) : (marks k m)[j]? = some (k + (j : Int)) := by simp [marks, h]
theorem marks_succ (k : Int) (m : Nat) : marks k (m + 1) = marks k m ++ [k + (m : Int)] := by simp [marks, List.range_succ]
theorem marks_step (k : Int) (L : List Int) (m : Nat) (h : m < L.length) (x : Int) (hx : x = k + (m : Int)) : (marks k m ++ L.drop m).set m x = marks k (m + 1) ++ L.drop (m + 1) := by
  subst hx
  rw [marks_succ, List.append_assoc]
  have e : (marks k m ++ L.drop m).set m (k + (m : Int)) = marks k m ++ (L.drop m).set 0 (k + (m : Int)) := by
    rw [List.set_append, if_neg (by rw [marks_len]; omega), marks_len, Nat.sub_self]
  rw [e]
  congr 1
  rw [List.drop_eq_getElem_cons h]
  rfl
theorem marks_drop (k : Int) (L : List Int) (m : Nat) (h : m < L.length) : (marks k m ++ L.drop m)[m]? = some L[m] := by
  rw [List.getElem?_append_right (by rw [marks_len]; omega), marks_len, Nat.sub_self, List.drop_eq_getElem_cons h]
  rfl
theorem marks_drop1 (k : Int) (L : List Int) (m f : Nat) (h : m + f < L.length) : (marks k m ++ L.drop m)[m + f]? = some L[m + f] := by
  rw [List.getElem?_append_right (by rw [marks_len]; omega), marks_len, show m + f - m = f by omega, List.getElem?_drop, List.getElem?_eq_getElem h]
theorem mul_lt_of {i n k f : Nat} (h : i < n) (hf : f < k) : i * k + f < n * k := by
  have : (i + 1) * k ≤ n * k := Nat.mul_le_mul_right k h
  rw [Nat.add_mul] at this
  omega
theorem at_of {L : List Int} {n k i f : Nat} (hl : L.length = n * k) (h : i < n) (hf : f < k) : ∃ x, L[i * k + f]? = some x :=
  ⟨L[i * k + f]'(by rw [hl]; exact mul_lt_of h hf), List.getElem?_eq_getElem _⟩
end Go.Proofs.Ytkkmikgeppkhiaa
