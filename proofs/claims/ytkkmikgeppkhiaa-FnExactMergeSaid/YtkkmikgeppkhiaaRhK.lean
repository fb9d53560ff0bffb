/-
  Rows of rows, half made, whose blocks all lie above a bound.
-/
import Derived.Test.YtkkmikgeppkhiaaNbP
import Derived.Test.YtkkmikgeppkhiaaNoP
namespace Go.Proofs.Ytkkmikgeppkhiaa
open Go.ChangeShapes Go.WideShapes Go.ChangeAt Go.RowKit Go.Maps Go.WideMaps
set_option linter.unusedVariables false
set_option linter.unusedSimpArgs false

def InnB (B : Nat) (ob : Option Nat) (w : World) (v : Value) (l : List Nat) : Prop := ∃ (u : Option Addr) (c : Nat), v = .slice u l.length c ∧ (l ≠ [] → ∃ g o, u = some ⟨g, o, none⟩ ∧ B ≤ g ∧ g < w.heap.size ∧ some g ≠ ob ∧ IntsAt w g o (nats l))
theorem InnB.inn {B : Nat} {ob : Option Nat} {w : World} {v : Value} {l : List Nat} (h : InnB B ob w v l) : Inn w v l := by
  obtain ⟨u, c, rfl, h1⟩ := h
  refine ⟨u, c, rfl, fun h0 => ?_⟩
  obtain ⟨g, o, rfl, _, h2, _, h3⟩ := h1 h0
  exact ⟨g, o, rfl, h2, h3⟩
theorem InnB.bel {B : Nat} {ob : Option Nat} {w w' : World} {v : Value} {l : List Nat} (h : InnB B ob w v l) (hb : Below w.heap.size w w') : InnB B ob w' v l := by
  obtain ⟨u, c, rfl, h1⟩ := h
  refine ⟨u, c, rfl, fun h0 => ?_⟩
  obtain ⟨g, o, rfl, hB, h2, h4, h3⟩ := h1 h0
  exact ⟨g, o, rfl, hB, Nat.lt_of_lt_of_le h2 hb.size, h4, h3.below hb h2⟩
theorem InnB.grow {B : Nat} {w w' : World} {v x x' : Value} {l : List Nat} (h : InnB B x.ownBlock w v l) (hg : w.grownBy w' x.ownBlock) (hn : NewBlk w x x') : InnB B x'.ownBlock w' v l := by
  obtain ⟨u, c, rfl, h1⟩ := h
  refine ⟨u, c, rfl, fun h0 => ?_⟩
  obtain ⟨g, o, rfl, hB, h2, h4, h3⟩ := h1 h0
  refine ⟨g, o, rfl, hB, Nat.lt_of_lt_of_le h2 hg.size, ?_, fun j z hj => (World.cell?_of_block (w := w) (a := ⟨g, o + j, none⟩) (hg.block g h2 h4)).trans (h3 j z hj)⟩
  intro e
  rcases hn g e.symm with k | k
  · exact h4 k.symm
  · omega
theorem InnB.blk {B : Nat} {ob : Option Nat} {w w' : World} {v : Value} {l : List Nat} (h : InnB B ob w v l) (hsz : w.heap.size ≤ w'.heap.size) (hb : ∀ g, B ≤ g → w'.heap[g]? = w.heap[g]?) : InnB B ob w' v l := by
  obtain ⟨u, c, rfl, h1⟩ := h
  refine ⟨u, c, rfl, fun h0 => ?_⟩
  obtain ⟨g, o, rfl, hB, h2, h4, h3⟩ := h1 h0
  exact ⟨g, o, rfl, hB, Nat.lt_of_lt_of_le h2 hsz, h4, fun j z hj => (World.cell?_of_block (w := w) (a := ⟨g, o + j, none⟩) (hb g hB)).trans (h3 j z hj)⟩
def HalfB (w : World) (B : Nat) (v : Value) (nm : List (List Nat)) : Prop := ∃ vs : List Value, w.ownsRow B 94 1 v nm.length vs ∧ ∀ (j : Nat) (l : List Nat), nm[j]? = some l → ∃ x, vs[j]? = some x ∧ InnB B v.ownBlock w x l
theorem HalfB.bel {w w' : World} {B : Nat} {v : Value} {nm : List (List Nat)} (h : HalfB w B v nm) (hb : Below w.heap.size w w') : HalfB w' B v nm := by
  obtain ⟨vs, h1, h2⟩ := h
  refine ⟨vs, own_bel h1 hb, fun j l hj => ?_⟩
  obtain ⟨x, hx, hi⟩ := h2 j l hj
  exact ⟨x, hx, hi.bel hb⟩
theorem HalfB.blk {w w' : World} {B : Nat} {v : Value} {nm : List (List Nat)} (h : HalfB w B v nm) (hsz : w.heap.size ≤ w'.heap.size) (hb : ∀ g, B ≤ g → w'.heap[g]? = w.heap[g]?) : HalfB w' B v nm := by
  obtain ⟨vs, h1, h2⟩ := h
  refine ⟨vs, own_kept h1 (fun g hg => hb g (own_ge h1 g hg).1), fun j l hj => ?_⟩
  obtain ⟨x, hx, hi⟩ := h2 j l hj
  exact ⟨x, hx, hi.blk hsz hb⟩
theorem HalfB.set {w : World} {B g o : Nat} {v x : Value} {nm : List (List Nat)} (h : HalfB w B v nm) (hg : g < B) : HalfB (w.setCell ⟨g, o, none⟩ x) B v nm :=
  h.blk (by simp [World.setCell]) (fun k hk => Below.heap_setCell _ _ _ _ (by show k ≠ g; omega))
theorem HalfB.nmS {w : World} {B : Nat} {v : Value} {nm : List (List Nat)} (h : HalfB w B v nm) : NmS w v nm := by
  obtain ⟨vs, h1, h2⟩ := h
  obtain ⟨u, cap, rfl, _, _, h3⟩ := own_form h1
  refine ⟨u, cap, rfl, fun h0 => ?_⟩
  obtain ⟨g, rfl, _, hg, hc⟩ := h3 (by intro e; exact h0 (List.eq_nil_of_length_eq_zero e))
  refine ⟨g, 0, rfl, hg, fun i l hi => ?_⟩
  obtain ⟨x, hx, hI⟩ := h2 i l hi
  exact ⟨x, by rw [Nat.zero_add]; exact hc i x hx, hI.inn⟩
/-- one row more -/
theorem half_more {W2 w1 : World} {B : Nat} {v v' va : Value} {nm : List (List Nat)} {l : List Nat} {i : Nat} {vs : List Value} (hi : nm.length = i) (h1 : W2.ownsRow B 94 1 v i vs) (h2 : ∀ (j : Nat) (l : List Nat), nm[j]? = some l → ∃ x, vs[j]? = some x ∧ InnB B v.ownBlock W2 x l) (hown' : w1.ownsRow B 94 1 v' (i + 1) (vs ++ [va])) (hal : Below W2.heap.size W2 (W2.alloc (.cells #[va] 94))) (hgrow : (W2.alloc (.cells #[va] 94)).grownBy w1 v.ownBlock) (hnew : NewBlk (W2.alloc (.cells #[va] 94)) v v') (hva : InnB B v.ownBlock W2 va l) : HalfB w1 B v' (nm ++ [l]) := by
  have hvl : vs.length = i := by have := h1.1; omega
  refine ⟨vs ++ [va], by rw [List.length_append, hi]; exact hown', fun j k hj => ?_⟩
  by_cases hji : j < i
  · rw [List.getElem?_append_left (by omega)] at hj
    obtain ⟨x, hx, hI⟩ := h2 j k hj
    exact ⟨x, by rw [List.getElem?_append_left (by omega)]; exact hx, (hI.bel hal).grow hgrow hnew⟩
  · rw [List.getElem?_append_right (by omega)] at hj
    have hj0 : j - nm.length = 0 := by
      rcases Nat.eq_zero_or_pos (j - nm.length) with e | e
      · exact e
      · rw [List.getElem?_eq_none (by simp; omega)] at hj; cases hj
    rw [hj0] at hj
    cases hj
    exact ⟨va, by rw [List.getElem?_append_right (by omega), show j - vs.length = 0 by omega]; rfl, (hva.bel hal).grow hgrow hnew⟩
end Go.Proofs.Ytkkmikgeppkhiaa
