/-
  Nests: what is laid in an order, each plate turned or not, is one.
-/
import Derived.Test.YtoidhlackoigkaaNsWi
namespace Go.Proofs.Ytoidhlackoigkaa
open Go.ChangeShapes Go.WideShapes Go.ChangeAt Go.RowKit
set_option linter.unusedVariables false
set_option linter.unusedSimpArgs false

/-- one that is to be laid: its number, whether it is turned, its size as it lies -/
structure Itm where
  n : Int
  t : Bool
  w : Int
  h : Int
/-- laid as they were to be -/
def Fol (P : List Itm) (L : List Ld) : Prop := L.length = P.length ∧ ∀ (i : Nat) (l : Ld) (p : Itm), L[i]? = some l → P[i]? = some p → l.n = p.n ∧ l.t = p.t ∧ l.a.w = p.w ∧ l.a.h = p.h
/-- each at the lowest place, there the leftmost -/
def Nst (Wd : Int) (L : List Ld) : Prop := ∀ (i : Nat) (l : Ld), L[i]? = some l → Low Wd (rcs (L.take i)) l.a.w l.a.h l.a.x l.a.y
theorem nst_uniq {Wd : Int} {P : List Itm} {L L' : List Ld} (h : Nst Wd L) (h' : Nst Wd L') (f : Fol P L) (f' : Fol P L') : L = L' := by
  have key : ∀ i, i ≤ P.length → L.take i = L'.take i := by
    intro i
    induction i with
    | zero => intro _; rfl
    | succ i ih =>
      intro hi
      have e := ih (by omega)
      obtain ⟨l, hl⟩ := get_some f.1 (show i < P.length by omega)
      obtain ⟨l', hl'⟩ := get_some f'.1 (show i < P.length by omega)
      obtain ⟨p, hp⟩ := get_some rfl (show i < P.length by omega)
      obtain ⟨a1, a2, a3, a4⟩ := f.2 i l p hl hp
      obtain ⟨b1, b2, b3, b4⟩ := f'.2 i l' p hl' hp
      have c1 := h i l hl
      have c2 := h' i l' hl'
      rw [e, a3, a4] at c1
      rw [b3, b4] at c2
      obtain ⟨d1, d2⟩ := c1.uniq c2
      rw [List.take_add_one, List.take_add_one, hl, hl', e]
      congr 2
      obtain ⟨n, t, ⟨x, y, w, hh⟩⟩ := l
      obtain ⟨n', t', ⟨x', y', w', hh'⟩⟩ := l'
      simp only at a1 a2 a3 a4 b1 b2 b3 b4 d1 d2
      subst a1 a2 a3 a4 d1 d2
      rw [b1, b2, b3, b4]
  have := key P.length (Nat.le_refl _)
  rwa [List.take_of_length_le (Nat.le_of_eq f.1), List.take_of_length_le (Nat.le_of_eq f'.1)] at this
theorem nst_nil (Wd : Int) : Nst Wd [] := fun i l h => by cases h
theorem fol_nil : Fol [] [] := ⟨rfl, fun i l p h => by cases h⟩
theorem nst_snoc {Wd : Int} {L : List Ld} {l : Ld} (h : Nst Wd L) (hl : Low Wd (rcs L) l.a.w l.a.h l.a.x l.a.y) : Nst Wd (L ++ [l]) := by
  intro i l' hi
  by_cases h1 : i < L.length
  · rw [List.getElem?_append_left h1] at hi
    rw [List.take_append_of_le_length (by omega)]
    exact h i l' hi
  · have h2 := (List.getElem?_eq_some_iff.1 hi).1
    simp at h2
    obtain rfl : i = L.length := by omega
    rw [List.getElem?_append_right (by omega), Nat.sub_self] at hi
    simp at hi
    subst hi
    rw [List.take_left']
    · exact hl
    · rfl
theorem fol_snoc {P : List Itm} {L : List Ld} {l : Ld} {p : Itm} (h : Fol P L) (hp : l.n = p.n ∧ l.t = p.t ∧ l.a.w = p.w ∧ l.a.h = p.h) : Fol (P ++ [p]) (L ++ [l]) := by
  refine ⟨by simp [h.1], fun i l' p' hi hj => ?_⟩
  by_cases h1 : i < L.length
  · rw [List.getElem?_append_left h1] at hi
    rw [List.getElem?_append_left (by rw [← h.1]; exact h1)] at hj
    exact h.2 i l' p' hi hj
  · have h2 := (List.getElem?_eq_some_iff.1 hi).1
    simp at h2
    obtain rfl : i = L.length := by omega
    rw [List.getElem?_append_right (by omega), Nat.sub_self] at hi
    rw [List.getElem?_append_right (by rw [← h.1]; omega), ← h.1, Nat.sub_self] at hj
    simp at hi hj
    subst hi hj
    exact hp
/-- how high it is -/
def hgtOf (L : List Ld) : Int := L.foldl (fun m l => max m (l.a.y + l.a.h)) 0
theorem hgtOf_snoc (L : List Ld) (l : Ld) : hgtOf (L ++ [l]) = max (hgtOf L) (l.a.y + l.a.h) := by simp [hgtOf]
/-- all that lie are near -/
structure Near (L : List Ld) : Prop where
  nr : ∀ l ∈ L, Nr l.a
  hg : Hgt L
theorem near_nil : Near [] := ⟨fun l h => (by cases h), fun l h => (by cases h)⟩
theorem near_snoc {Wd : Int} {L : List Ld} {l : Ld} (h : Near L) (hW : Wd ≤ 1000) (hn : L.length ≤ 900) (hl : Low Wd (rcs L) l.a.w l.a.h l.a.x l.a.y) (hs : (1 ≤ l.a.w ∧ l.a.w ≤ 1000) ∧ 1 ≤ l.a.h ∧ l.a.h ≤ 1000) : Near (L ++ [l]) := by
  have hy := hgt_tops h.hg _ hl.can.tp
  have hy0 := good_tops (good_nr h.nr) _ hl.can.tp
  have hx := rights_le h.nr _ hl.can.rt
  have hin := hl.can.inn
  refine ⟨fun q hq => ?_, fun q hq => ?_⟩
  · rcases List.mem_append.1 hq with h1 | h1
    · exact h.nr q h1
    · simp at h1; subst h1; unfold Nr; omega
  · rw [List.length_append, List.length_singleton]
    rcases List.mem_append.1 hq with h1 | h1
    · have := h.hg q h1; omega
    · simp at h1; subst h1; omega
theorem hgtOf_bd {L : List Ld} (h : Near L) : 0 ≤ hgtOf L ∧ hgtOf L ≤ 1000 * (L.length : Int) := by
  have key : ∀ (M : List Ld) (m B : Int), 0 ≤ m → m ≤ B → (∀ l ∈ M, l.a.y + l.a.h ≤ B) → 0 ≤ M.foldl (fun m l => max m (l.a.y + l.a.h)) m ∧ M.foldl (fun m l => max m (l.a.y + l.a.h)) m ≤ B := by
    intro M
    induction M with
    | nil => intro m B h1 h2 _; exact ⟨h1, h2⟩
    | cons a M ih =>
      intro m B h1 h2 h3
      simp only [List.foldl_cons]
      have := h3 a (by simp)
      exact ih _ B (by omega) (by omega) (fun l hl => h3 l (by simp [hl]))
  exact key L 0 _ (Int.le_refl _) (by omega) h.hg
theorem hgtOf_take {L : List Ld} {i : Nat} {l : Ld} (h : L[i]? = some l) : hgtOf (L.take (i + 1)) = max (hgtOf (L.take i)) (l.a.y + l.a.h) := by
  rw [List.take_add_one, h]
  exact hgtOf_snoc _ _
/-- the cells of spots -/
def spC (l : Ld) : List Value := [.int .i64 l.n, .int .i64 l.a.x, .int .i64 l.a.y, .bool l.t]
theorem spC_len (l : Ld) : (spC l).length = 4 := rfl
theorem Near.take {L : List Ld} (h : Near L) : ∀ l ∈ L, Sm l.a := fun l hl => (h.nr l hl).sm
end Go.Proofs.Ytoidhlackoigkaa
