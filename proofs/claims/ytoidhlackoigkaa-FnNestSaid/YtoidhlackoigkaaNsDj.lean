/-
  Rows that grow beside one another; rows of rectangles.
-/
import Derived.Test.YtoidhlackoigkaaNsPs
import Derived.Test.YtoidhlackoigkaaAppNew
namespace Go.Proofs.Ytoidhlackoigkaa
open Go.ChangeShapes Go.WideShapes Go.ChangeAt Go.RowKit
set_option linter.unusedVariables false
set_option linter.unusedSimpArgs false

theorem int_info3 : (Try.prog.info? 3).map (fun i => (i.zero, i.size, i.bytes)) = some (some (.int .i64 0), 1, 8) := by kernel_rfl
theorem row_vb {w : World} {B g t k n : Nat} {L : List Int} (h : vb w g t (L.map (Value.int .i64))) (hl : L.length = n * k) (hB : B ≤ g) (hn : n ≤ 100000) : Row w B t k (.slice (some ⟨g, 0, none⟩) n n) n L := by
  refine ⟨by simpa using hl, .inr ⟨g, n, _, rfl, hB, h, Nat.le_refl _, by unfold maxLen; omega, by simpa using hl, ?_⟩⟩
  rw [List.take_of_length_le (by simp [hl])]
theorem Row.ne {w : World} {B t k g' o : Nat} {v x : Value} {n : Nat} {L : List Int} (h : Row w B t k v n L) (hg : g' < B) : Row (w.setCell ⟨g', o, none⟩ x) B t k v n L := by
  refine ⟨h.1, ?_⟩
  rcases h.2 with h1 | ⟨g, cap, cur, hv, hB, hh, r⟩
  · exact .inl h1
  · exact .inr ⟨g, cap, cur, hv, hB, (Below.heap_setCell _ _ _ _ (show g ≠ g' by omega)).trans hh, r⟩
theorem Row.grown {w w' : World} {B t k : Nat} {v : Value} {n : Nat} {L : List Int} {o : Option Nat} (h : Row w B t k v n L) (hg : w.grownBy w' o) (hd : ∀ q, v.ownBlock = some q → o ≠ some q) : Row w' B t k v n L :=
  h.kept' fun q hq => hg.block q (h.lt q hq).2 (fun e => hd q hq e.symm)
theorem vb.grown {w w' : World} {g t : Nat} {vs : List Value} {o : Option Nat} (h : vb w g t vs) (hg : w.grownBy w' o) (hd : o ≠ some g) : vb w' g t vs := (hg.block g h.lt (fun e => hd e.symm)).trans h
/-- no block in common -/
def Dj (v u : Value) : Prop := ∀ q, v.ownBlock = some q → u.ownBlock ≠ some q
theorem Dj.symm {v u : Value} (h : Dj v u) : Dj u v := fun q hq e => h q e hq
theorem Dj.new {w : World} {B t k n : Nat} {v u u' : Value} {L : List Int} (h : Dj v u) (hv : Row w B t k v n L) (hn : NewBlk w u u') : Dj v u' := by
  intro q hq e
  rcases hn q e with h1 | h1
  · exact h q hq h1
  · have := (hv.lt q hq).2; omega
/-- the cells of a row of rectangles -/
def rcC (a : Rc) : List Value := [.int .i64 a.x, .int .i64 a.y, .int .i64 a.w, .int .i64 a.h]
def RcAt (w : World) (b po : Nat) (L : List Rc) : Prop := ∀ j l, L[j]? = some l → ∀ k v, (rcC l)[k]? = some v → w.cell? ⟨b, po + j * 4 + k, none⟩ = some v
def Rcs (w : World) (u : Option Addr) (b po : Nat) (L : List Rc) : Prop := L ≠ [] → u = some ⟨b, po, none⟩ ∧ b < w.heap.size ∧ RcAt w b po L
theorem Rcs.bel {w w' : World} {u : Option Addr} {b po : Nat} {L : List Rc} (h : Rcs w u b po L) (hb : Below w.heap.size w w') : Rcs w' u b po L := fun hn => by
  obtain ⟨h1, h2, h3⟩ := h hn
  refine ⟨h1, Nat.lt_of_lt_of_le h2 hb.size, fun j l hj k v hk => ?_⟩
  exact keep1 hb (h3 j l hj k v hk)
theorem Rcs.at {w : World} {u : Option Addr} {b po : Nat} {L : List Rc} (h : Rcs w u b po L) {j : Nat} {l : Rc} (hj : L[j]? = some l) : u = some ⟨b, po, none⟩ ∧ b < w.heap.size ∧ ∀ k v, (rcC l)[k]? = some v → w.cell? ⟨b, po + j * 4 + k, none⟩ = some v := by
  obtain ⟨h1, h2, h3⟩ := h (by intro e; rw [e] at hj; cases hj)
  exact ⟨h1, h2, h3 j l hj⟩
theorem tops_take {R : List Rc} {i : Nat} {a : Rc} (h : R[i]? = some a) : tops (R.take (i + 1)) = tops (R.take i) ++ [a.y + a.h] := by
  unfold tops; rw [List.take_add_one, h]; simp
theorem rights_take {R : List Rc} {i : Nat} {a : Rc} (h : R[i]? = some a) : rights (R.take (i + 1)) = rights (R.take i) ++ [a.x + a.w] := by
  unfold rights; rw [List.take_add_one, h]; simp
/-- while the ends are gathered -/
structure PlA (w W : World) (R : List Rc) (i : Nat) (ry rx : Value) : Prop where
  bel : Below w.heap.size w W
  sz : w.heap.size + 1 ≤ W.heap.size
  re : vb W w.heap.size 84 [.int .i64 0, .int .i64 0, .int .i64 0, .int .i64 0]
  p : Row W (w.heap.size + 1) 3 1 ry (i + 1) (tops (R.take i))
  q : Row W (w.heap.size + 1) 3 1 rx (i + 1) (rights (R.take i))
  d : Dj ry rx
theorem PlA.on {w W W2 : World} {R : List Rc} {i : Nat} {ry rx : Value} (h : PlA w W R i ry rx) (hb : Below W.heap.size W W2) : PlA w W2 R i ry rx :=
  ⟨bc h.bel hb, Nat.le_trans h.sz hb.size, h.re.bel hb, h.p.below hb, h.q.below hb, h.d⟩
end Go.Proofs.Ytoidhlackoigkaa
