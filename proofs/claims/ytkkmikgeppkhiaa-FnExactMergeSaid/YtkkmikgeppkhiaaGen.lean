/-
  Rows of structs in memory: any cells, k to an element.
-/
import Derived.Test.YtkkmikgeppkhiaaVb
import Derived.Test.YtkkmikgeppkhiaaAppNew
namespace Go.Proofs.Ytkkmikgeppkhiaa
open Go.ChangeShapes Go.WideShapes Go.ChangeAt Go.RowKit
set_option linter.unusedVariables false
set_option linter.unusedSimpArgs false

/-- the cells of a row, element by element -/
def flatG {α : Type} (c : α → List Value) : List α → List Value
  | [] => []
  | a :: l => c a ++ flatG c l
theorem flatG_len {α : Type} {c : α → List Value} {k : Nat} (hc : ∀ a, (c a).length = k) (l : List α) : (flatG c l).length = l.length * k := by
  induction l with
  | nil => simp [flatG]
  | cons a l ih => simp only [flatG, List.length_append, hc, ih, List.length_cons, Nat.add_mul]; omega
theorem flatG_append {α : Type} (c : α → List Value) (a b : List α) : flatG c (a ++ b) = flatG c a ++ flatG c b := by
  induction a with
  | nil => rfl
  | cons x a ih => simp [flatG, ih]
theorem flatG_at {α : Type} {c : α → List Value} {k : Nat} (hc : ∀ a, (c a).length = k) {l : List α} {i : Nat} {a : α} (h : l[i]? = some a) {j : Nat} {v : Value} (hj : (c a)[j]? = some v) : (flatG c l)[i * k + j]? = some v := by
  induction l generalizing i with
  | nil => cases h
  | cons x l ih =>
    have hjk : j < k := by have := (List.getElem?_eq_some_iff.1 hj).1; rw [hc] at this; exact this
    cases i with
    | zero =>
      simp only [List.getElem?_cons_zero, Option.some.injEq] at h
      subst h
      simp only [Nat.zero_mul, Nat.zero_add, flatG]
      rw [List.getElem?_append_left (by rw [hc]; exact hjk)]
      exact hj
    | succ i =>
      have := ih (i := i) (by simpa using h)
      simp only [flatG]
      rw [List.getElem?_append_right (by rw [hc, Nat.add_mul]; omega), hc, show (i + 1) * k + j - k = i * k + j by rw [Nat.add_mul]; omega]
      exact this
/-- these cells from a place on -/
def setAll : List Value → Nat → List Value → List Value
  | L, _, [] => L
  | L, o, v :: vs => setAll (L.set o v) (o + 1) vs
theorem setAll_right (A L : List Value) (o : Nat) (vs : List Value) : setAll (A ++ L) (A.length + o) vs = A ++ setAll L o vs := by
  induction vs generalizing L o with
  | nil => rfl
  | cons v vs ih =>
    simp only [setAll]
    rw [List.set_append, if_neg (by omega), show A.length + o - A.length = o by omega, show A.length + o + 1 = A.length + (o + 1) by omega, ih]
theorem setAll_over (A L vs : List Value) (h : vs.length = A.length) : setAll (A ++ L) 0 vs = vs ++ L := by
  induction vs generalizing A with
  | nil => have : A = [] := List.eq_nil_of_length_eq_zero (by simpa using h.symm); subst this; rfl
  | cons v vs ih =>
    cases A with
    | nil => simp at h
    | cons x A =>
      have h2 := setAll_right [v] (A ++ L) 0 vs
      simp only [List.length_singleton, Nat.add_zero, List.singleton_append] at h2
      simp only [setAll, List.cons_append, List.set_cons_zero, Nat.zero_add]
      rw [h2, ih A (by simpa using h)]
theorem flatG_set {α : Type} {c : α → List Value} {k : Nat} (hc : ∀ a, (c a).length = k) (l : List α) (i : Nat) (a : α) (h : i < l.length) : flatG c (l.set i a) = setAll (flatG c l) (i * k) (c a) := by
  induction l generalizing i with
  | nil => simp at h
  | cons x l ih =>
    cases i with
    | zero =>
      simp only [List.set_cons_zero, flatG, Nat.zero_mul]
      rw [setAll_over _ _ _ (by rw [hc, hc])]
    | succ i =>
      have e := ih i (by simpa using h)
      simp only [List.set_cons_succ, flatG, e]
      rw [show (i + 1) * k = (c x).length + i * k by rw [hc, Nat.add_mul]; omega, setAll_right]
/-- these elements lie in the cells from off on -/
def AtG {α : Type} (c : α → List Value) (k : Nat) (w : World) (b off : Nat) (l : List α) : Prop := ∀ (i : Nat) (a : α), l[i]? = some a → ∀ (j : Nat) (v : Value), (c a)[j]? = some v → w.cell? ⟨b, off + i * k + j, none⟩ = some v
theorem AtG.below {α : Type} {c : α → List Value} {k B : Nat} {w w' : World} {b off : Nat} {l : List α} (h : AtG c k w b off l) (hb : Below B w w') (hB : b < B) : AtG c k w' b off l :=
  fun i a hi j v hj => (hb.cell (p := ⟨b, _, none⟩) hB).trans (h i a hi j v hj)
theorem AtG.but {α : Type} {c : α → List Value} {k : Nat} {w w' : World} {g b off : Nat} {l : List α} (h : AtG c k w b off l) (hb : But g w w') (hg : b ≠ g) : AtG c k w' b off l :=
  fun i a hi j v hj => cell_but hb hg (h i a hi j v hj)
theorem AtG.blk {α : Type} {c : α → List Value} {k : Nat} {w w' : World} {b off : Nat} {l : List α} (h : AtG c k w b off l) (e : w'.heap[b]? = w.heap[b]?) : AtG c k w' b off l :=
  fun i a hi j v hj => (World.cell?_of_block (w := w) (a := ⟨b, _, none⟩) e).trans (h i a hi j v hj)
/-- a slice of such elements -/
def SlG {α : Type} (c : α → List Value) (k : Nat) (w : World) (u : Option Addr) (p po : Nat) (l : List α) : Prop := l ≠ [] → u = some ⟨p, po, none⟩ ∧ p < w.heap.size ∧ AtG c k w p po l
theorem SlG.bel {α : Type} {c : α → List Value} {k : Nat} {w w' : World} {u : Option Addr} {p po : Nat} {l : List α} (h : SlG c k w u p po l) (hb : Below w.heap.size w w') : SlG c k w' u p po l :=
  fun h0 => ⟨(h h0).1, Nat.lt_of_lt_of_le (h h0).2.1 hb.size, (h h0).2.2.below hb (h h0).2.1⟩
theorem SlG.but {α : Type} {c : α → List Value} {k : Nat} {w w' : World} {g : Nat} {u : Option Addr} {p po : Nat} {l : List α} (h : SlG c k w u p po l) (hb : But g w w') (hg : l ≠ [] → p ≠ g) : SlG c k w' u p po l :=
  fun h0 => ⟨(h h0).1, Nat.lt_of_lt_of_le (h h0).2.1 (Nat.le_of_eq hb.size), (h h0).2.2.but hb (hg h0)⟩
theorem SlG.at {α : Type} {c : α → List Value} {k : Nat} {w : World} {u : Option Addr} {p po : Nat} {l : List α} (h : SlG c k w u p po l) {i : Nat} {a : α} (hi : l[i]? = some a) : u = some ⟨p, po, none⟩ ∧ p < w.heap.size ∧ ∀ (j : Nat) (v : Value), (c a)[j]? = some v → w.cell? ⟨p, po + i * k + j, none⟩ = some v := by
  obtain ⟨h1, h2, h3⟩ := h (by intro e; subst e; cases hi)
  exact ⟨h1, h2, h3 i a hi⟩
theorem vb.atG {α : Type} {c : α → List Value} {k : Nat} (hc : ∀ a, (c a).length = k) {w : World} {g t : Nat} {l : List α} (h : vb w g t (flatG c l)) : AtG c k w g 0 l := by
  intro i a hi j v hj
  rw [Nat.zero_add]
  exact h.cell (flatG_at hc hi hj)
theorem vb.slG {α : Type} {c : α → List Value} {k : Nat} (hc : ∀ a, (c a).length = k) {w : World} {g t : Nat} {l : List α} (h : vb w g t (flatG c l)) : SlG c k w (some ⟨g, 0, none⟩) g 0 l := fun _ => ⟨rfl, h.lt, h.atG hc⟩

/-- a row that a call made, of any one-cell values -/
theorem own_form {w : World} {B t k : Nat} {v : Value} {n : Nat} {L : List Value} (h : w.ownsRow B t k v n L) :
    ∃ (u : Option Addr) (cap : Nat), v = .slice u n cap ∧ n ≤ cap ∧ cap ≤ maxLen ∧ (n ≠ 0 → ∃ g, u = some ⟨g, 0, none⟩ ∧ B ≤ g ∧ g < w.heap.size ∧ ∀ j x, L[j]? = some x → w.cell? ⟨g, j, none⟩ = some x) := by
  rcases h.2 with ⟨rfl, rfl⟩ | ⟨g, cap, cur, rfl, hb, hh, hn, hm, hs, ht⟩
  · exact ⟨none, 0, rfl, Nat.le_refl _, by simp, fun h => absurd rfl h⟩
  · refine ⟨_, cap, rfl, hn, hm, fun _ => ⟨g, rfl, hb, (Array.getElem?_eq_some_iff.1 hh).1, ?_⟩⟩
    intro j x hj
    have h1 : (cur.toList.take (n * k))[j]? = some x := by rw [ht]; exact hj
    simp only [World.cell?]
    rw [hh]
    rw [List.getElem?_take] at h1
    split at h1
    · simpa using h1
    · cases h1
theorem own_bel {w w' : World} {B t k : Nat} {v : Value} {n : Nat} {L : List Value} (h : w.ownsRow B t k v n L) (hb : Below w.heap.size w w') : w'.ownsRow B t k v n L := by
  refine ⟨h.1, ?_⟩
  rcases h.2 with h1 | ⟨g, cap, cur, hv, hB, hh, r⟩
  · exact .inl h1
  · exact .inr ⟨g, cap, cur, hv, hB, (hb.block g (Array.getElem?_eq_some_iff.1 hh).1).trans hh, r⟩
theorem own_kept {w w' : World} {B t k n : Nat} {v : Value} {L : List Value} (h : w.ownsRow B t k v n L) (hb : ∀ g, v.ownBlock = some g → w'.heap[g]? = w.heap[g]?) : w'.ownsRow B t k v n L := by
  refine ⟨h.1, ?_⟩
  rcases h.2 with h1 | ⟨g, cap, cur, hv, hB, hh, r⟩
  · exact .inl h1
  · exact .inr ⟨g, cap, cur, hv, hB, (hb g (by rw [hv]; rfl)).trans hh, r⟩
theorem own_mono {w : World} {B B' t k : Nat} {v : Value} {n : Nat} {L : List Value} (h : w.ownsRow B t k v n L) (hb : B' ≤ B) : w.ownsRow B' t k v n L := by
  refine ⟨h.1, ?_⟩
  rcases h.2 with h1 | ⟨g, cap, cur, hv, hB, r⟩
  · exact .inl h1
  · exact .inr ⟨g, cap, cur, hv, Nat.le_trans hb hB, r⟩
theorem own_made (w : World) (t B k : Nat) (hb : B ≤ w.heap.size) (g : Nat) (hg : g = w.heap.size) : (w.alloc (.cells #[] t)).ownsRow B t k (.slice (some ⟨g, 0, none⟩) 0 0) 0 [] := by
  subst hg
  exact World.ownsRow_made w #[] 0 hb (by decide) (by simp)
theorem own_nil (w : World) (t B k : Nat) : w.ownsRow B t k (.slice none 0 0) 0 [] := ⟨by simp, .inl ⟨rfl, rfl⟩⟩
theorem own_ge {w : World} {B t k : Nat} {v : Value} {n : Nat} {L : List Value} (h : w.ownsRow B t k v n L) : ∀ g, v.ownBlock = some g → B ≤ g ∧ g < w.heap.size := by
  intro g hg
  rcases h.2 with ⟨rfl, _⟩ | ⟨g', cap, cur, rfl, hB, hh, r⟩
  · cases hg
  · simp only [Value.ownBlock, Option.some.injEq] at hg
    subst hg
    exact ⟨hB, (Array.getElem?_eq_some_iff.1 hh).1⟩
/-- a whole block as a row of one's own -/
theorem vb.owns {w : World} {B g t n : Nat} {L : List Value} (h : vb w g t L) (hB : B ≤ g) (hl : L.length = n) (hn : n ≤ maxLen) : w.ownsRow B t 1 (.slice (some ⟨g, 0, none⟩) n n) n L :=
  ⟨by omega, .inr ⟨g, n, L.toArray, rfl, hB, h, Nat.le_refl _, hn, by simp [hl], by simp [← hl]⟩⟩
theorem own_set {w : World} {B t k g n cap : Nat} {L : List Value} (h : w.ownsRow B t k (.slice (some ⟨g, 0, none⟩) n cap) n L) (j : Nat) (x : Value) :
    (w.setCell ⟨g, j, none⟩ x).ownsRow B t k (.slice (some ⟨g, 0, none⟩) n cap) n (L.set j x) := by
  refine ⟨by have := h.1; simpa using this, ?_⟩
  rcases h.2 with ⟨h1, h2⟩ | ⟨g', cap', cur, hv, hB, hh, hn, hm, hs, ht⟩
  · cases h1
  · cases hv
    refine .inr ⟨g, cap, cur.setIfInBounds j x, rfl, hB, ?_, hn, hm, by simp [hs], ?_⟩
    · show (w.heap.modify g _)[g]? = _
      rw [Array.getElem?_modify, if_pos rfl, hh]
      simp
    · rw [Array.toList_setIfInBounds, List.take_set, ht]
theorem own_frz {w : World} {B t k g n cap : Nat} {L : List Value} (h : w.ownsRow B t k (.slice (some ⟨g, 0, none⟩) n cap) n L) (o : Nat) : w.frozen? ⟨g, o, none⟩ = false := by
  rcases h.2 with ⟨h1, h2⟩ | ⟨g', cap', cur, hv, hB, hh, r⟩
  · cases h1
  · cases hv
    simp only [World.frozen?]
    rw [hh]
    simp
end Go.Proofs.Ytkkmikgeppkhiaa
