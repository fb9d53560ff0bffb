/-
  What the laws ask of points and numbers: that two rows are the same, that one is written over, that it is held.
-/
import Derived.Test.YtchdmigeopmacaaCoreMath
namespace Go.Proofs.Ytchdmigeopmacaa
open Go.ChangeShapes Go.WideShapes Go.ChangeAt Go.RowKit
set_option linter.unusedVariables false
set_option linter.unusedSimpArgs false

theorem Row.set {w : World} {B t k g n cap : Nat} {L : List Int} (h : Row w B t k (.slice (some ⟨g, 0, none⟩) n cap) n L) (j : Nat) (hj : j < n * k) (x : Int) :
    Row (w.setCell ⟨g, j, none⟩ (.int .i64 x)) B t k (.slice (some ⟨g, 0, none⟩) n cap) n (L.set j x) := by
  refine ⟨by have := h.1; simpa using this, ?_⟩
  rcases h.2 with ⟨h1, h2⟩ | ⟨g', cap', cur, hv, hB, hh, hn, hm, hs, ht⟩
  · cases h1
  · cases hv
    refine .inr ⟨g, cap, cur.setIfInBounds j (.int .i64 x), rfl, hB, ?_, hn, hm, by simp [hs], ?_⟩
    · show (w.heap.modify g _)[g]? = _
      rw [Array.getElem?_modify, if_pos rfl, hh]
      simp
    · rw [Array.toList_setIfInBounds, List.take_set, ht, List.map_set]
theorem Row.cellAt {w : World} {B t k g n cap : Nat} {L : List Int} (h : Row w B t k (.slice (some ⟨g, 0, none⟩) n cap) n L) {j : Nat} {x : Int} (hj : L[j]? = some x) : w.cell? ⟨g, j, none⟩ = some (.int .i64 x) := by
  by_cases hn : n = 0
  · subst hn
    have := h.len
    rw [List.getElem?_eq_none (by omega)] at hj
    cases hj
  · obtain ⟨u, cap', hv, hf⟩ := h.form
    cases hv
    obtain ⟨g', hu, _, _, hi⟩ := hf hn
    cases hu
    have := hi j x hj
    rwa [Nat.zero_add] at this
theorem Row.frz {w : World} {B t k g n cap : Nat} {L : List Int} (h : Row w B t k (.slice (some ⟨g, 0, none⟩) n cap) n L) (o : Nat) : w.frozen? ⟨g, o, none⟩ = false := by
  rcases h.2 with ⟨h1, h2⟩ | ⟨g', cap', cur, hv, hB, hh, r⟩
  · cases h1
  · cases hv
    simp only [World.frozen?]
    rw [hh]
    simp
theorem Row.ge {w : World} {B t k g n cap : Nat} {L : List Int} (h : Row w B t k (.slice (some ⟨g, 0, none⟩) n cap) n L) : B ≤ g := by
  rcases h.2 with ⟨h1, h2⟩ | ⟨g', cap', cur, hv, hB, r⟩
  · cases h1
  · cases hv; exact hB
theorem Row.kept {w w' : World} {B B' t k n : Nat} {v : Value} {L : List Int} (h : Row w B t k v n L) (hb : ∀ g, v.ownBlock = some g → w'.heap[g]? = w.heap[g]?) : Row w' B t k v n L := by
  refine ⟨h.1, ?_⟩
  rcases h.2 with h1 | ⟨g, cap, cur, hv, hB, hh, r⟩
  · exact .inl h1
  · subst hv
    exact .inr ⟨g, cap, cur, rfl, hB, (hb g rfl).trans hh, r⟩

end Go.Proofs.Ytchdmigeopmacaa
